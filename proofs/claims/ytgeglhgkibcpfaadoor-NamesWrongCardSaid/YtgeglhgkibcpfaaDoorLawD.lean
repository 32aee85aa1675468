/- The walk of the statement NamesWrong. -/
import Derived.Test.YtgeglhgkibcpfaaDoorAwake15
import Derived.Test.YtgeglhgkibcpfaaDoorNamE
import Derived.Test.YtgeglhgkibcpfaaDoorLawA
import Derived.Test.YtgeglhgkibcpfaaDoorNamF
import Derived.Test.YtgeglhgkibcpfaaDoorRegion
import Derived.RegionTactic
namespace Go.Proofs.YtgeglhgkibcpfaaDoor
open Go.RowKit
set_option linter.unusedVariables false

theorem ahead_any (X : Dcl) (w : World) (B : Nat) (hB : B ≤ w.heap.size) (d : Dl) (h : X.Rd w B d) (hcap : X.n0 ≤ X.c0 ∧ X.n1 ≤ X.c1 ∧ X.n2 ≤ X.c2 ∧ X.n3 ≤ X.c3 ∧ X.n4 ≤ X.c4 ∧ X.n5 ≤ X.c5 ∧ X.n6 ≤ X.c6) (hn : cntD d ≤ 50000) (er : Int) (s : ByteArray) (p : Int) (m : Nat)
    (hp : p = 2 ∨ p = 3 ∨ p = 4 ∨ p = 5 ∨ p = 6 ∨ p = 8 ∨ p = 9) (hm : m < (aheadD d p m).1.length) :
    Calls Tryd.prog 23 #[dclV X, .agg #[.int .i64 er, .int .i64 p, .int .i64 (m : Int), .string s]] w (OutA B w (aheadD d p m)) := by
  obtain ⟨k0, k1, k2, k3, k4, k5, k6⟩ := hcap
  rcases hp with rfl | rfl | rfl | rfl | rfl | rfl | rfl
  · exact ahead_2 X w B hB d h k0 hn er s m (by rw [← h.fl.1]; exact hm)
  · exact ahead_3 X w B hB d h k1 hn er s m (by rw [← h.pr.1]; exact hm)
  · exact ahead_4 X w B hB d h k2 hn er s m (by rw [← h.gl.1]; exact hm)
  · exact ahead_5 X w B hB d h k3 hn er s m (by rw [← h.ob.1]; exact hm)
  · exact ahead_6 X w B hB d h k4 hn er s m (by rw [← h.ve.1]; exact hm)
  · exact ahead_8 X w B hB d h k5 hn er s m (by rw [← h.fu.1]; exact hm)
  · exact ahead_9 X w B hB d h k6 hn er s m (by rw [← h.da.1]; exact hm)

theorem makeN_part {gd : List UInt8 → Bool} {d : Dl} (h : (makeN gd d).2.1 ≠ 0) : (makeN gd d).2.2.1 = 2 ∨ (makeN gd d).2.2.1 = 3 ∨ (makeN gd d).2.2.1 = 4 ∨ (makeN gd d).2.2.1 = 5 ∨ (makeN gd d).2.2.1 = 6 ∨ (makeN gd d).2.2.1 = 8 ∨ (makeN gd d).2.2.1 = 9 := by
  obtain ⟨_, a, e, r, t2, h3, _, h5, _⟩ := makeF_bad (gd := gd) (l := allE d) (t := nms0) h
  have h6 : (makeN gd d).2 = (errE gd t2 e, e.part, (e.at_ : Int), e.name) := h5
  rw [h6]
  have hm : e ∈ allE d := by rw [h3]; simp
  unfold allE at hm
  simp only [List.mem_append] at hm
  show e.part = 2 ∨ e.part = 3 ∨ e.part = 4 ∨ e.part = 5 ∨ e.part = 6 ∨ e.part = 8 ∨ e.part = 9
  rcases hm with hm | hm | hm | hm | hm | hm | hm <;> have := (entF_mem hm).2.1 <;> omega

theorem aheadD_sub {d : Dl} {p : Int} {m : Nat} (h : ∀ e ∈ allE d, (e.name.length : Int) ≤ 9223372036854775807) {a r : List En} {e : En} (hs : allE d = a ++ e :: r) (hp : p = e.part) (hm : m = e.at_) : ∀ x ∈ allE (aheadD d p m).2, (x.name.length : Int) ≤ 9223372036854775807 := by
  subst hp hm
  intro x hx
  rw [(aheadD_all hs).2] at hx
  exact h x (by rw [hs]; simp [hx])

/-- what is wrong, whole -/
theorem makeN_bad2 {gd : List UInt8 → Bool} {d : Dl} {err part num : Int} {name : List UInt8} (h : (makeN gd d).2 = (err, part, num, name)) (h0 : err ≠ 0) (hl : ∀ e ∈ allE d, (e.name.length : Int) ≤ 9223372036854775807) :
    (err = 7 ∨ err = 9 ∨ err = 10) ∧ (part = 2 ∨ part = 3 ∨ part = 4 ∨ part = 5 ∨ part = 6 ∨ part = 8 ∨ part = 9) ∧ ∃ n : Nat, num = n ∧ n < (aheadD d part n).1.length ∧ (aheadD d part n).1[n]?.getD [] = name ∧ (makeN gd (aheadD d part n).2).2 = (0, 0, 0, []) ∧ (∀ x ∈ allE (aheadD d part n).2, (x.name.length : Int) ≤ 9223372036854775807) := by
  have hpt := makeN_part (gd := gd) (d := d) (by rw [h]; exact h0)
  rw [h] at hpt
  have h1 : (makeF gd nms0 (allE d)).2.1 ≠ 0 := by
    show (makeN gd d).2.1 ≠ 0
    rw [h]
    exact h0
  obtain ⟨h2, a, e, r, t2, h3, h4, h5, h6⟩ := makeF_bad h1
  have h7 := h.symm.trans h5
  simp only [Prod.mk.injEq] at h7
  obtain ⟨rfl, rfl, rfl, rfl⟩ := h7
  obtain ⟨h8, h9⟩ := aheadD_all h3
  refine ⟨errE_some h6, hpt, e.at_, rfl, (List.getElem?_eq_some_iff.1 h8).1, by rw [h8]; rfl, ?_, aheadD_sub hl h3 rfl rfl⟩
  show (makeF gd nms0 (allE _)).2 = _
  rw [h9]
  exact h4

set_option maxRecDepth 100000 in
set_option maxHeartbeats 25600000 in
theorem nwrong_walk (X : Dcl) (w : World) (d : Dl) (hfl : Fl w) (h : X.Rd w w.heap.size d) (hcap : X.n0 ≤ X.c0 ∧ X.n1 ≤ X.c1 ∧ X.n2 ≤ X.c2 ∧ X.n3 ≤ X.c3 ∧ X.n4 ≤ X.c4 ∧ X.n5 ≤ X.c5 ∧ X.n6 ≤ X.c6) (hbd : X.n0 ≤ 140737488355328 ∧ X.n1 ≤ 140737488355328 ∧ X.n2 ≤ 140737488355328 ∧ X.n3 ≤ 140737488355328 ∧ X.n4 ≤ 140737488355328 ∧ X.n5 ≤ 140737488355328 ∧ X.n6 ≤ 140737488355328) (hl : ∀ e ∈ allE d, (e.name.length : Int) ≤ 9223372036854775807) :
    Calls Tryd.prog 6 #[dclV X] w fun e w' => e = .returned (.bool true) ∧ Below w.heap.size w w' := by
  obtain ⟨A0, n0, c0, A1, n1, c1, A2, n2, c2, A3, n3, c3, A4, n4, c4, A5, n5, c5, A6, n6, c6⟩ := X
  have hcnt := h.cnt
  simp only at hcnt hbd
  have HCAP := Lib.hid hcap
  have H := Lib.hid h
  have HL := Lib.hid hl
  have HFL := Lib.hid hfl
  clear hfl
  have HBD : Hid (n0 ≤ 140737488355328 ∧ n1 ≤ 140737488355328 ∧ n2 ≤ 140737488355328 ∧ n3 ≤ 140737488355328 ∧ n4 ≤ 140737488355328 ∧ n5 ≤ 140737488355328 ∧ n6 ≤ 140737488355328) := Lib.hid hbd
  obtain ⟨q, hq⟩ : ∃ q, q = n0 + n1 + n2 + n3 + n4 + n5 + n6 := ⟨_, rfl⟩
  have HQ := Lib.hid hq
  have HC : Hid (cntD d = q) := Lib.hid (by rw [hcnt, hq])
  clear h hl hcnt hbd hq hcap
  show Calls Tryd.prog _ #[.agg #[.slice A0 n0 c0, .slice A1 n1 c1, .slice A2 n2 c2, .slice A3 n3 c3, .slice A4 n4 c4, .slice A5 n5 c5, .slice A6 n6 c6]] w _
  obtain ⟨W, hW⟩ : ∃ W, W = w.alloc (.cells #[.slice A0 n0 c0, .slice A1 n1 c1, .slice A2 n2 c2, .slice A3 n3 c3, .slice A4 n4 c4, .slice A5 n5 c5, .slice A6 n6 c6] 24) := ⟨_, rfl⟩
  have HB0 : Hid (Below w.heap.size w W) := Lib.hid (by rw [hW]; exact (Below.refl _ _).alloc (Nat.le_refl _) _)
  have HK0 : Hid (Blk W w.heap.size 24 #[.slice A0 n0 c0, .slice A1 n1 c1, .slice A2 n2 c2, .slice A3 n3 c3, .slice A4 n4 c4, .slice A5 n5 c5, .slice A6 n6 c6]) := Lib.hid (by rw [hW]; exact Blk.new _ _ _)
  by_cases hs : q ≤ 400
  · obtain ⟨⟨ts, fa, fb, fk, fs⟩, hR⟩ : ∃ R, R = makeN gdN d := ⟨_, rfl⟩
    have HR := Lib.hid hR
    clear hR
    go_enter Tryd.func6, Tryd.ntmps6
    go_wp2_with fail
    rw [← hW]
    clear hW
    go_wp2_with (refine wpList_load_row rfl 24 _ rfl w.heap.size rfl 24 #[.slice A0 n0 c0, .slice A1 n1 c1, .slice A2 n2 c2, .slice A3 n3 c3, .slice A4 n4 c4, .slice A5 n5 c5, .slice A6 n6 c6] (0, 0) _ HK0.out Tryd.underlying24 rfl dcl7_size ?_)
    refine (count_any ⟨A0, n0, c0, A1, n1, c1, A2, n2, c2, A3, n3, c3, A4, n4, c4, A5, n5, c5, A6, n6, c6⟩ W HBD.out).mono ?_
    rintro e w1 ⟨he, hb1⟩
    obtain rfl : e = .returned (.int .i64 (q : Int)) := by rw [he, HQ.out]
    have HB1 := Lib.hid (HB0.out.trans (hb1.mono HB0.out.size))
    have HK1 := Lib.hid (HK0.out.below hb1 HK0.out.lt)
    clear hb1 he
    go_wp2_with (refine wpList_load_row rfl 24 _ rfl w.heap.size rfl 24 #[.slice A0 n0 c0, .slice A1 n1 c1, .slice A2 n2 c2, .slice A3 n3 c3, .slice A4 n4 c4, .slice A5 n5 c5, .slice A6 n6 c6] (0, 0) _ HK1.out Tryd.underlying24 rfl dcl7_size ?_)
    refine (source_any ⟨A0, n0, c0, A1, n1, c1, A2, n2, c2, A3, n3, c3, A4, n4, c4, A5, n5, c5, A6, n6, c6⟩ w1 d ((H.out.below HB1.out).more HB1.out.size) (by rw [HC.out]; omega)).mono ?_
    rintro e w2 ⟨Y, rfl, hY, hb2⟩
    have HB2 := Lib.hid (HB1.out.trans (hb2.mono HB1.out.size))
    have HK2 := Lib.hid (HK1.out.below hb2 HK1.out.lt)
    clear hb2
    go_wp2_with fail
    refine (pMake_any Y w2 d (Fl.go HFL HB2) hY (by rw [HC.out]; omega) HL.out).mono ?_
    clear hY
    rintro e w3 ⟨At, nt, ct, he, ho, hb3⟩
    rw [← HR.out] at he
    obtain rfl : e = .returned (.tuple #[.slice At nt ct, .agg #[.int .i64 fa, .int .i64 fb, .int .i64 fk, .string (bs fs)]]) := he
    have HB3 := Lib.hid (HB2.out.trans (hb3.mono HB2.out.size))
    have HK3 := Lib.hid (HK2.out.below hb3 HK2.out.lt)
    clear ho hb3
    have hz1 : (makeN gdN d).2.1 = fa := by rw [← HR.out]
    by_cases h0 : fa = 0
    · subst h0
      have hzz2 : (makeN gdN d).2 = (0, 0, 0, []) := makeF_zero (gd := gdN) (l := allE d) (t := nms0) hz1
      rw [← HR.out] at hzz2
      simp only [Prod.mk.injEq] at hzz2
      obtain ⟨_, rfl, rfl, rfl⟩ := hzz2
      clear hz1
      have p0 : (w3.alloc (.cells #[.int .i64 0, .int .i64 0, .int .i64 0, .string (bs [])] 30)).cell? ⟨w3.heap.size, 0, none⟩ = some (.int .i64 0) := (Blk.new w3 30 #[.int .i64 0, .int .i64 0, .int .i64 0, .string (bs [])]).cell 0
      have p1 : (w3.alloc (.cells #[.int .i64 0, .int .i64 0, .int .i64 0, .string (bs [])] 30)).cell? ⟨w3.heap.size, 1, none⟩ = some (.int .i64 0) := (Blk.new w3 30 #[.int .i64 0, .int .i64 0, .int .i64 0, .string (bs [])]).cell 1
      have p2 : (w3.alloc (.cells #[.int .i64 0, .int .i64 0, .int .i64 0, .string (bs [])] 30)).cell? ⟨w3.heap.size, 2, none⟩ = some (.int .i64 0) := (Blk.new w3 30 #[.int .i64 0, .int .i64 0, .int .i64 0, .string (bs [])]).cell 2
      have p3 : (w3.alloc (.cells #[.int .i64 0, .int .i64 0, .int .i64 0, .string (bs [])] 30)).cell? ⟨w3.heap.size, 3, none⟩ = some (.string ⟨#[]⟩) := (Blk.new w3 30 #[.int .i64 0, .int .i64 0, .int .i64 0, .string (bs [])]).cell 3
      have e0 : ∀ (x y : Operand) (W : World), (eqGuard .eql 30 x y (.agg #[.int .i64 0, .int .i64 0, .int .i64 0, .string ⟨#[]⟩]) (.agg #[.int .i64 0, .int .i64 0, .int .i64 0, .string ⟨#[]⟩])).run Tryd.prog W = .ok () W := fun x y W => guard_fau .eql x y (0, 0, 0, []) (0, 0, 0, []) W
      have f0 : ∀ W : World, (binOp .eql 30 (.agg #[.int .i64 0, .int .i64 0, .int .i64 0, .string ⟨#[]⟩]) (.agg #[.int .i64 0, .int .i64 0, .int .i64 0, .string ⟨#[]⟩])).run Tryd.prog W = .ok (.bool true) W := fun W => (run_eql_fau (0, 0, 0, []) (0, 0, 0, []) W).trans (by simp)
      go_wp2_with fail
      refine (awake15_any _ (by first | exact Fl.go HFL (by assumption) | exact HFL.out.below (HB3.out.alloc HB3.out.size _) (Nat.le_refl _) | exact HFL.out.below (HB8.out.alloc HB8.out.size _) (Nat.le_refl _))).mono ?_
      rintro e wz ⟨rfl, hbz⟩
      have HB9 : Hid (Below w.heap.size w (w3.alloc (.cells #[.int .i64 0, .int .i64 0, .int .i64 0, .string (bs [])] 30))) := Lib.hid (HB3.out.alloc HB3.out.size _)
      have HBZ := Lib.hid (HB9.out.trans (hbz.mono HB9.out.size))
      clear hbz
      go_wp2_with fail
      go_ret
      exact ⟨rfl, HBZ.out⟩
    · have hR2 : (makeN gdN d).2 = (fa, fb, fk, fs) := by rw [← HR.out]
      obtain ⟨b1, b2, m, rfl, b4, b5, b6, b7⟩ := makeN_bad2 hR2 h0 HL.out
      have HE := Lib.hid b1
      have HP := Lib.hid b2
      have HLT := Lib.hid b4
      have HNM := Lib.hid b5
      have HM2 := Lib.hid b6
      have HLA := Lib.hid b7
      clear b1 b2 b4 b5 b6 b7 hR2 hz1
      obtain ⟨V, hV⟩ : ∃ V, V = w3.alloc (.cells #[.int .i64 fa, .int .i64 fb, .int .i64 (m : Int), .string (bs fs)] 30) := ⟨_, rfl⟩
      have HBV : Hid (Below w.heap.size w V) := Lib.hid (by rw [hV]; exact HB3.out.alloc HB3.out.size _)
      have HKV : Hid (Blk V w.heap.size 24 #[.slice A0 n0 c0, .slice A1 n1 c1, .slice A2 n2 c2, .slice A3 n3 c3, .slice A4 n4 c4, .slice A5 n5 c5, .slice A6 n6 c6]) := Lib.hid (by rw [hV]; exact HK3.out.alloc _)
      have HFV : Hid (Blk V w3.heap.size 30 #[.int .i64 fa, .int .i64 fb, .int .i64 (m : Int), .string (bs fs)]) := Lib.hid (by rw [hV]; exact Blk.new _ _ _)
      have p0 : (w3.alloc (.cells #[.int .i64 fa, .int .i64 fb, .int .i64 (m : Int), .string (bs fs)] 30)).cell? ⟨w3.heap.size, 0, none⟩ = some (.int .i64 fa) := (Blk.new w3 30 #[.int .i64 fa, .int .i64 fb, .int .i64 (m : Int), .string (bs fs)]).cell 0
      have p1 : (w3.alloc (.cells #[.int .i64 fa, .int .i64 fb, .int .i64 (m : Int), .string (bs fs)] 30)).cell? ⟨w3.heap.size, 1, none⟩ = some (.int .i64 fb) := (Blk.new w3 30 #[.int .i64 fa, .int .i64 fb, .int .i64 (m : Int), .string (bs fs)]).cell 1
      have p2 : (w3.alloc (.cells #[.int .i64 fa, .int .i64 fb, .int .i64 (m : Int), .string (bs fs)] 30)).cell? ⟨w3.heap.size, 2, none⟩ = some (.int .i64 (m : Int)) := (Blk.new w3 30 #[.int .i64 fa, .int .i64 fb, .int .i64 (m : Int), .string (bs fs)]).cell 2
      have p3 : (w3.alloc (.cells #[.int .i64 fa, .int .i64 fb, .int .i64 (m : Int), .string (bs fs)] 30)).cell? ⟨w3.heap.size, 3, none⟩ = some (.string (bs fs)) := (Blk.new w3 30 #[.int .i64 fa, .int .i64 fb, .int .i64 (m : Int), .string (bs fs)]).cell 3
      have e0 : ∀ (x y : Operand) (W : World), (eqGuard .eql 30 x y (.agg #[.int .i64 fa, .int .i64 fb, .int .i64 (m : Int), .string (bs fs)]) (.agg #[.int .i64 0, .int .i64 0, .int .i64 0, .string ⟨#[]⟩])).run Tryd.prog W = .ok () W := fun x y W => guard_fau .eql x y (fa, fb, (m : Int), fs) (0, 0, 0, []) W
      have f0 : ∀ W : World, (binOp .eql 30 (.agg #[.int .i64 fa, .int .i64 fb, .int .i64 (m : Int), .string (bs fs)]) (.agg #[.int .i64 0, .int .i64 0, .int .i64 0, .string ⟨#[]⟩])).run Tryd.prog W = .ok (.bool false) W := fun W => (run_eql_fau (fa, fb, (m : Int), fs) (0, 0, 0, []) W).trans (by simp [h0])
      go_wp2_with (first | (refine wpList_load_row rfl 24 _ rfl w.heap.size rfl 24 #[.slice A0 n0 c0, .slice A1 n1 c1, .slice A2 n2 c2, .slice A3 n3 c3, .slice A4 n4 c4, .slice A5 n5 c5, .slice A6 n6 c6] (0, 0) _ (HK3.out.alloc _) Tryd.underlying24 rfl dcl7_size ?_) | (refine wpList_load_row rfl 30 _ rfl w3.heap.size rfl 30 #[.int .i64 fa, .int .i64 fb, .int .i64 (m : Int), .string (bs fs)] (0, 0) _ (Blk.new w3 _ _) Tryd.underlying30 rfl fau_size ?_))
      rw [← hV]
      clear hV p0 p1 p2 p3
      refine (ahead_any ⟨A0, n0, c0, A1, n1, c1, A2, n2, c2, A3, n3, c3, A4, n4, c4, A5, n5, c5, A6, n6, c6⟩ V w.heap.size HBV.out.size d (H.out.below HBV.out) HCAP.out (by rw [HC.out]; omega) fa (bs fs) fb m HP.out HLT.out).mono ?_
      rintro e w4 ⟨Al, nl, cl, ⟨Z0, y0, x0, Z1, y1, x1, Z2, y2, x2, Z3, y3, x3, Z4, y4, x4, Z5, y5, x5, Z6, y6, x6⟩, rfl, hl4, hy4, hys, hb4⟩
      simp only at hys
      have HK4 := Lib.hid (HKV.out.below hb4 HKV.out.lt)
      have HF4 := Lib.hid (HFV.out.below hb4 HFV.out.lt)
      have HB4 := Lib.hid (HBV.out.trans (hb4.mono HBV.out.size))
      have hne : w.heap.size ≠ w3.heap.size := by have := HK3.out.lt; omega
      obtain ⟨D, hD⟩ : ∃ D, D = w4.setRow w.heap.size #[.slice Z0 y0 x0, .slice Z1 y1 x1, .slice Z2 y2 x2, .slice Z3 y3 x3, .slice Z4 y4 x4, .slice Z5 y5 x5, .slice Z6 y6 x6] := ⟨_, rfl⟩
      have HKD : Hid (Blk D w.heap.size 24 #[.slice Z0 y0 x0, .slice Z1 y1 x1, .slice Z2 y2 x2, .slice Z3 y3 x3, .slice Z4 y4 x4, .slice Z5 y5 x5, .slice Z6 y6 x6]) := Lib.hid (by rw [hD]; exact setRow_heap _ _ _ _ _ _ HK4.out)
      have HBD : Hid (Below w.heap.size w D) := Lib.hid (by rw [hD]; exact below_setRow HB4.out (Nat.le_refl _) _)
      have HFD : Hid (Blk D w3.heap.size 30 #[.int .i64 fa, .int .i64 fb, .int .i64 (m : Int), .string (bs fs)]) := Lib.hid (by rw [hD]; exact (setRow_other _ _ _ _ (fun e => hne e.symm)).trans HF4.out)
      have hbs : Below w.heap.size w4 D := by rw [hD]; exact below_setRow (Below.refl _ _) (Nat.le_refl _) _
      have HYD : Hid ((Dcl.mk Z0 y0 x0 Z1 y1 x1 Z2 y2 x2 Z3 y3 x3 Z4 y4 x4 Z5 y5 x5 Z6 y6 x6).Rd D w.heap.size (aheadD d fb m).2) := Lib.hid (hy4.below hbs)
      have HLD : Hid (RdS D w.heap.size Al nl (aheadD d fb m).1) := Lib.hid (hl4.below hbs)
      have HYS := Lib.hid hys
      have hsz : D.heap.size = w4.heap.size := by rw [hD]; exact size_setRow _ _ _
      obtain rfl : nl = (aheadD d fb m).1.length := hl4.1.symm
      obtain ⟨nl, hnl⟩ : ∃ n, n = (aheadD d fb m).1.length := ⟨_, rfl⟩
      rw [← hnl] at HLD ⊢
      have hmn : m < nl := by rw [hnl]; exact HLT.out
      obtain ⟨ad, rfl, hadb, ep⟩ : ∃ ad : Addr, Al = some ad ∧ ad.block < w.heap.size ∧ D.cell? (ad.add m) = some (.string (bs fs)) := by
        obtain ⟨ad, e, hb, hc⟩ := HLD.out.2 (by omega)
        exact ⟨ad, e, hb, by rw [hc m HLT.out, HNM.out]⟩
      have hbad : (ad.add m).block < D.heap.size := by rw [blk_add]; have := HBD.out.size; omega
      obtain ⟨bF, hbe⟩ : ∃ b, b = w3.heap.size := ⟨_, rfl⟩
      rw [← hbe] at HFD
      have hbF : bF < D.heap.size := HFD.out.lt
      have c0 : D.cell? ⟨bF, 0, none⟩ = some (.int .i64 fa) := HFD.out.cell 0
      have c2 : D.cell? ⟨bF, 2, none⟩ = some (.int .i64 (m : Int)) := HFD.out.cell 2
      have c3 : D.cell? ⟨bF, 3, none⟩ = some (.string (bs fs)) := HFD.out.cell 3
      have hge : ¬ (nl : Int) ≤ (m : Int) := by omega
      have hd1 : decide (nl ≤ m) = false := decide_eq_false (by omega)
      have hd2 : decide ((nl : Int) ≤ (m : Int)) = false := decide_eq_false (by omega)
      have hgn : ¬ nl ≤ m := by omega
      have hlt0 : ¬ (m : Int) < 0 := by omega
      have hix : (0 : Int) ≤ (m : Int) ∧ (m : Int) < (nl : Int) := by omega
      have m2 : ((bs fs).toList == (bs fs).toList) = true := by simp
      have D0 : Hid (D = w4.setRow w.heap.size #[.slice Z0 y0 x0, .slice Z1 y1 x1, .slice Z2 y2 x2, .slice Z3 y3 x3, .slice Z4 y4 x4, .slice Z5 y5 x5, .slice Z6 y6 x6]) := Lib.hid hD
      rw [← hbe]
      clear hl4 hy4 hys hb4 hsz hbs hnl hbe hD
      go_wp2_with (refine wpList_store_row rfl 24 _ _ rfl w.heap.size #[.slice Z0 y0 x0, .slice Z1 y1 x1, .slice Z2 y2 x2, .slice Z3 y3 x3, .slice Z4 y4 x4, .slice Z5 y5 x5, .slice Z6 y6 x6] rfl rfl _ _ HK4.out dcl7_size rfl (by simp [Value.oneCell']) ?_; rw [← D0.out])
      rcases HE.out with rfl | rfl | rfl
      · refine wp_region_held_drew (S := fun w' => Below D.heap.size D w') (by kernel_rfl) (Below.refl _ _).drew (fun hHeld => ?_)
        refine held_take (i := 0) (fuel := 34) (v := ?_) (by rw [List.getElem?_toArray]; rfl) (by kernel_rfl) (by kernel_rfl) (by kernel_rfl) hHeld ?_ ?_ ?_ ?_
        rotate_left
        · intro u hSw
          go_simp
          try with_reducible rfl
        · rfl
        · exact fun _ _ _ h => h
        try simp only [Act.put, List.setIfInBounds_toArray, List.set_cons_zero, List.set_cons_succ]
        refine held_take (i := 1) (fuel := 33) (v := ?_) (by rw [List.getElem?_toArray]; rfl) (by kernel_rfl) (by kernel_rfl) (by kernel_rfl) hHeld ?_ ?_ ?_ ?_
        rotate_left
        · intro u hSw
          have y0 := (hSw.cell (p := ⟨bF, 0, none⟩) hbF).trans c0
          have y2 := (hSw.cell (p := ⟨bF, 2, none⟩) hbF).trans c2
          have y3 := (hSw.cell (p := ⟨bF, 3, none⟩) hbF).trans c3
          go_simp
          try with_reducible rfl
        · rfl
        · exact fun _ _ _ h => h
        try simp only [Act.put, List.setIfInBounds_toArray, List.set_cons_zero, List.set_cons_succ]
        refine held_take (i := 2) (fuel := 32) (v := ?_) (by rw [List.getElem?_toArray]; rfl) (by kernel_rfl) (by kernel_rfl) (by kernel_rfl) hHeld ?_ ?_ ?_ ?_
        rotate_left
        · intro u hSw
          go_simp
          try with_reducible rfl
        · rfl
        · exact fun _ _ _ h => h
        try simp only [Act.put, List.setIfInBounds_toArray, List.set_cons_zero, List.set_cons_succ]
        refine held_take (i := 3) (fuel := 31) (v := ?_) (by rw [List.getElem?_toArray]; rfl) (by kernel_rfl) (by kernel_rfl) (by kernel_rfl) hHeld ?_ ?_ ?_ ?_
        rotate_left
        · intro u hSw
          go_simp
          try with_reducible rfl
        · rfl
        · exact fun _ _ _ h => h
        try simp only [Act.put, List.setIfInBounds_toArray, List.set_cons_zero, List.set_cons_succ]
        refine held_take (i := 4) (fuel := 30) (v := ?_) (by rw [List.getElem?_toArray]; rfl) (by kernel_rfl) (by kernel_rfl) (by kernel_rfl) hHeld ?_ ?_ ?_ ?_
        rotate_left
        · intro u hSw
          go_simp
          try with_reducible rfl
        · rfl
        · exact fun _ _ _ h => h
        try simp only [Act.put, List.setIfInBounds_toArray, List.set_cons_zero, List.set_cons_succ]
        refine held_take (i := 5) (fuel := 29) (v := ?_) (by rw [List.getElem?_toArray]; rfl) (by kernel_rfl) (by kernel_rfl) (by kernel_rfl) hHeld ?_ ?_ ?_ ?_
        rotate_left
        · intro u hSw
          have y0 := (hSw.cell (p := ⟨bF, 0, none⟩) hbF).trans c0
          have y2 := (hSw.cell (p := ⟨bF, 2, none⟩) hbF).trans c2
          have y3 := (hSw.cell (p := ⟨bF, 3, none⟩) hbF).trans c3
          go_simp
          try with_reducible rfl
        · rfl
        · exact fun _ _ _ h => h
        try simp only [Act.put, List.setIfInBounds_toArray, List.set_cons_zero, List.set_cons_succ]
        refine held_take (i := 6) (fuel := 28) (v := ?_) (by rw [List.getElem?_toArray]; rfl) (by kernel_rfl) (by kernel_rfl) (by kernel_rfl) hHeld ?_ ?_ ?_ ?_
        rotate_left
        · intro u hSw
          go_simp
          try with_reducible rfl
        · rfl
        · exact fun _ _ _ h => h
        try simp only [Act.put, List.setIfInBounds_toArray, List.set_cons_zero, List.set_cons_succ]
        refine held_take (i := 7) (fuel := 27) (v := ?_) (by rw [List.getElem?_toArray]; rfl) (by kernel_rfl) (by kernel_rfl) (by kernel_rfl) hHeld ?_ ?_ ?_ ?_
        rotate_left
        · intro u hSw
          go_simp
          try with_reducible rfl
        · rfl
        · exact fun _ _ _ h => h
        try simp only [Act.put, List.setIfInBounds_toArray, List.set_cons_zero, List.set_cons_succ]
        refine held_take (i := 8) (fuel := 26) (v := ?_) (by rw [List.getElem?_toArray]; rfl) (by kernel_rfl) (by kernel_rfl) (by kernel_rfl) hHeld ?_ ?_ ?_ ?_
        rotate_left
        · intro u hSw
          go_simp
          try with_reducible rfl
        · rfl
        · exact fun _ _ _ h => h
        try simp only [Act.put, List.setIfInBounds_toArray, List.set_cons_zero, List.set_cons_succ]
        refine held_take (i := 9) (fuel := 25) (v := ?_) (by rw [List.getElem?_toArray]; rfl) (by kernel_rfl) (by kernel_rfl) (by kernel_rfl) hHeld ?_ ?_ ?_ ?_
        rotate_left
        · intro u hSw
          go_simp
          try with_reducible rfl
        · rfl
        · exact fun _ _ _ h => h
        try simp only [Act.put, List.setIfInBounds_toArray, List.set_cons_zero, List.set_cons_succ]
        refine held_take (i := 10) (fuel := 24) (v := ?_) (by rw [List.getElem?_toArray]; rfl) (by kernel_rfl) (by kernel_rfl) (by kernel_rfl) hHeld ?_ ?_ ?_ ?_
        rotate_left
        · intro u hSw
          go_simp
          try with_reducible rfl
        · rfl
        · exact fun _ _ _ h => h
        try simp only [Act.put, List.setIfInBounds_toArray, List.set_cons_zero, List.set_cons_succ]
        refine held_take (i := 11) (fuel := 23) (v := ?_) (by rw [List.getElem?_toArray]; rfl) (by kernel_rfl) (by kernel_rfl) (by kernel_rfl) hHeld ?_ ?_ ?_ ?_
        rotate_left
        · intro u hSw
          go_simp
          try with_reducible rfl
        · rfl
        · exact fun _ _ _ h => h
        try simp only [Act.put, List.setIfInBounds_toArray, List.set_cons_zero, List.set_cons_succ]
        refine held_take (i := 12) (fuel := 22) (v := ?_) (by rw [List.getElem?_toArray]; rfl) (by kernel_rfl) (by kernel_rfl) (by kernel_rfl) hHeld ?_ ?_ ?_ ?_
        rotate_left
        · intro u hSw
          go_simp
          try with_reducible rfl
        · rfl
        · exact fun _ _ _ h => h
        try simp only [Act.put, List.setIfInBounds_toArray, List.set_cons_zero, List.set_cons_succ]
        refine held_take (i := 13) (fuel := 21) (v := ?_) (by rw [List.getElem?_toArray]; rfl) (by kernel_rfl) (by kernel_rfl) (by kernel_rfl) hHeld ?_ ?_ ?_ ?_
        rotate_left
        · intro u hSw
          have y0 := (hSw.cell (p := ⟨bF, 0, none⟩) hbF).trans c0
          have y2 := (hSw.cell (p := ⟨bF, 2, none⟩) hbF).trans c2
          have y3 := (hSw.cell (p := ⟨bF, 3, none⟩) hbF).trans c3
          go_simp
          try with_reducible rfl
        · rfl
        · exact fun _ _ _ h => h
        try simp only [Act.put, List.setIfInBounds_toArray, List.set_cons_zero, List.set_cons_succ]
        refine held_take (i := 14) (fuel := 20) (v := ?_) (by rw [List.getElem?_toArray]; rfl) (by kernel_rfl) (by kernel_rfl) (by kernel_rfl) hHeld ?_ ?_ ?_ ?_
        rotate_left
        · intro u hSw
          go_simp
          try with_reducible rfl
        · rfl
        · exact fun _ _ _ h => h
        try simp only [Act.put, List.setIfInBounds_toArray, List.set_cons_zero, List.set_cons_succ]
        refine held_take (i := 15) (fuel := 19) (v := ?_) (by rw [List.getElem?_toArray]; rfl) (by kernel_rfl) (by kernel_rfl) (by kernel_rfl) hHeld ?_ ?_ ?_ ?_
        rotate_left
        · intro u hSw
          have y9 := (hSw.cell (p := ad.add m) hbad).trans ep
          go_simp
          try with_reducible rfl
        · rfl
        · exact fun _ _ _ h => h
        try simp only [Act.put, List.setIfInBounds_toArray, List.set_cons_zero, List.set_cons_succ]
        refine held_take (i := 16) (fuel := 18) (v := ?_) (by rw [List.getElem?_toArray]; rfl) (by kernel_rfl) (by kernel_rfl) (by kernel_rfl) hHeld ?_ ?_ ?_ ?_
        rotate_left
        · intro u hSw
          go_simp
          try with_reducible rfl
        · rfl
        · exact fun _ _ _ h => h
        try simp only [Act.put, List.setIfInBounds_toArray, List.set_cons_zero, List.set_cons_succ]
        refine held_take (i := 17) (fuel := 17) (v := ?_) (by rw [List.getElem?_toArray]; rfl) (by kernel_rfl) (by kernel_rfl) (by kernel_rfl) hHeld ?_ ?_ ?_ ?_
        rotate_left
        · intro u hSw
          have y0 := (hSw.cell (p := ⟨bF, 0, none⟩) hbF).trans c0
          have y2 := (hSw.cell (p := ⟨bF, 2, none⟩) hbF).trans c2
          have y3 := (hSw.cell (p := ⟨bF, 3, none⟩) hbF).trans c3
          go_simp
          try with_reducible rfl
        · rfl
        · exact fun _ _ _ h => h
        try simp only [Act.put, List.setIfInBounds_toArray, List.set_cons_zero, List.set_cons_succ]
        refine held_take (i := 18) (fuel := 16) (v := ?_) (by rw [List.getElem?_toArray]; rfl) (by kernel_rfl) (by kernel_rfl) (by kernel_rfl) hHeld ?_ ?_ ?_ ?_
        rotate_left
        · intro u hSw
          go_simp
          try with_reducible rfl
        · rfl
        · exact fun _ _ _ h => h
        try simp only [Act.put, List.setIfInBounds_toArray, List.set_cons_zero, List.set_cons_succ]
        refine held_take (i := 19) (fuel := 15) (v := ?_) (by rw [List.getElem?_toArray]; rfl) (by kernel_rfl) (by kernel_rfl) (by kernel_rfl) hHeld ?_ ?_ ?_ ?_
        rotate_left
        · intro u hSw
          go_simp
          try with_reducible rfl
        · rfl
        · exact fun _ _ _ h => h
        try simp only [Act.put, List.setIfInBounds_toArray, List.set_cons_zero, List.set_cons_succ]
        refine held_take (i := 20) (fuel := 14) (v := ?_) (by rw [List.getElem?_toArray]; rfl) (by kernel_rfl) (by kernel_rfl) (by kernel_rfl) hHeld ?_ ?_ ?_ ?_
        rotate_left
        · intro u hSw
          go_simp
          try with_reducible rfl
        · rfl
        · exact fun _ _ _ h => h
        try simp only [Act.put, List.setIfInBounds_toArray, List.set_cons_zero, List.set_cons_succ]
        refine held_take (i := 21) (fuel := 13) (v := ?_) (by rw [List.getElem?_toArray]; rfl) (by kernel_rfl) (by kernel_rfl) (by kernel_rfl) hHeld ?_ ?_ ?_ ?_
        rotate_left
        · intro u hSw
          go_simp
          try with_reducible rfl
        · rfl
        · exact fun _ _ _ h => h
        try simp only [Act.put, List.setIfInBounds_toArray, List.set_cons_zero, List.set_cons_succ]
        refine held_take (i := 22) (fuel := 12) (v := ?_) (by rw [List.getElem?_toArray]; rfl) (by kernel_rfl) (by kernel_rfl) (by kernel_rfl) hHeld ?_ ?_ ?_ ?_
        rotate_left
        · intro u hSw
          have y0 := (hSw.cell (p := ⟨bF, 0, none⟩) hbF).trans c0
          have y2 := (hSw.cell (p := ⟨bF, 2, none⟩) hbF).trans c2
          have y3 := (hSw.cell (p := ⟨bF, 3, none⟩) hbF).trans c3
          go_simp
          try with_reducible rfl
        · rfl
        · exact fun _ _ _ h => h
        try simp only [Act.put, List.setIfInBounds_toArray, List.set_cons_zero, List.set_cons_succ]
        refine held_take (i := 23) (fuel := 11) (v := ?_) (by rw [List.getElem?_toArray]; rfl) (by kernel_rfl) (by kernel_rfl) (by kernel_rfl) hHeld ?_ ?_ ?_ ?_
        rotate_left
        · intro u hSw
          go_simp
          try with_reducible rfl
        · rfl
        · exact fun _ _ _ h => h
        try simp only [Act.put, List.setIfInBounds_toArray, List.set_cons_zero, List.set_cons_succ]
        refine held_take (i := 24) (fuel := 10) (v := ?_) (by rw [List.getElem?_toArray]; rfl) (by kernel_rfl) (by kernel_rfl) (by kernel_rfl) hHeld ?_ ?_ ?_ ?_
        rotate_left
        · intro u hSw
          go_simp
          try with_reducible rfl
        · rfl
        · exact fun _ _ _ h => h
        try simp only [Act.put, List.setIfInBounds_toArray, List.set_cons_zero, List.set_cons_succ]
        refine held_skip (i := 25) (fuel := 9) (by rw [List.getElem?_toArray]; rfl) (by kernel_rfl) (by kernel_rfl) (by kernel_rfl) hHeld ?_ ?_ ?_
        · rfl
        · exact fun _ _ _ h => h
        try simp only [Act.put, List.setIfInBounds_toArray, List.set_cons_zero, List.set_cons_succ]
        refine held_skip (i := 26) (fuel := 8) (by rw [List.getElem?_toArray]; rfl) (by kernel_rfl) (by kernel_rfl) (by kernel_rfl) hHeld ?_ ?_ ?_
        · rfl
        · exact fun _ _ _ h => h
        try simp only [Act.put, List.setIfInBounds_toArray, List.set_cons_zero, List.set_cons_succ]
        refine held_skip (i := 27) (fuel := 7) (by rw [List.getElem?_toArray]; rfl) (by kernel_rfl) (by kernel_rfl) (by kernel_rfl) hHeld ?_ ?_ ?_
        · rfl
        · exact fun _ _ _ h => h
        try simp only [Act.put, List.setIfInBounds_toArray, List.set_cons_zero, List.set_cons_succ]
        refine held_take (i := 28) (fuel := 6) (v := ?_) (by rw [List.getElem?_toArray]; rfl) (by kernel_rfl) (by kernel_rfl) (by kernel_rfl) hHeld ?_ ?_ ?_ ?_
        rotate_left
        · intro u hSw
          go_simp
          try with_reducible rfl
        · rfl
        · exact fun _ _ _ h => h
        try simp only [Act.put, List.setIfInBounds_toArray, List.set_cons_zero, List.set_cons_succ]
        refine held_take (i := 29) (fuel := 5) (v := ?_) (by rw [List.getElem?_toArray]; rfl) (by kernel_rfl) (by kernel_rfl) (by kernel_rfl) hHeld ?_ ?_ ?_ ?_
        rotate_left
        · intro u hSw
          go_simp
          try with_reducible rfl
        · rfl
        · exact fun _ _ _ h => h
        try simp only [Act.put, List.setIfInBounds_toArray, List.set_cons_zero, List.set_cons_succ]
        refine held_skip (i := 30) (fuel := 4) (by rw [List.getElem?_toArray]; rfl) (by kernel_rfl) (by kernel_rfl) (by kernel_rfl) hHeld ?_ ?_ ?_
        · rfl
        · exact fun _ _ _ h => h
        try simp only [Act.put, List.setIfInBounds_toArray, List.set_cons_zero, List.set_cons_succ]
        refine held_skip (i := 31) (fuel := 3) (by rw [List.getElem?_toArray]; rfl) (by kernel_rfl) (by kernel_rfl) (by kernel_rfl) hHeld ?_ ?_ ?_
        · rfl
        · exact fun _ _ _ h => h
        try simp only [Act.put, List.setIfInBounds_toArray, List.set_cons_zero, List.set_cons_succ]
        refine held_skip (i := 32) (fuel := 2) (by rw [List.getElem?_toArray]; rfl) (by kernel_rfl) (by kernel_rfl) (by kernel_rfl) hHeld ?_ ?_ ?_
        · rfl
        · exact fun _ _ _ h => h
        try simp only [Act.put, List.setIfInBounds_toArray, List.set_cons_zero, List.set_cons_succ]
        refine held_take (i := 33) (fuel := 1) (v := ?_) (by rw [List.getElem?_toArray]; rfl) (by kernel_rfl) (by kernel_rfl) (by kernel_rfl) hHeld ?_ ?_ ?_ ?_
        rotate_left
        · intro u hSw
          go_simp
          try with_reducible rfl
        · rfl
        · exact fun _ _ _ h => h
        try simp only [Act.put, List.setIfInBounds_toArray, List.set_cons_zero, List.set_cons_succ]
        refine held_take (i := 34) (fuel := 0) (v := ?_) (by rw [List.getElem?_toArray]; rfl) (by kernel_rfl) (by kernel_rfl) (by kernel_rfl) hHeld ?_ ?_ ?_ ?_
        rotate_left
        · intro u hSw
          go_simp
          try with_reducible rfl
        · rfl
        · exact fun _ _ _ h => h
        try simp only [Act.put, List.setIfInBounds_toArray, List.set_cons_zero, List.set_cons_succ]
        refine wpAnyH_done (by kernel_rfl) ?_ _
        have HBX := Lib.hid (HBD.out.trans (hHeld.mono HBD.out.size))
        have HKX : Hid (Blk D.drew w.heap.size 24 #[.slice Z0 y0 x0, .slice Z1 y1 x1, .slice Z2 y2 x2, .slice Z3 y3 x3, .slice Z4 y4 x4, .slice Z5 y5 x5, .slice Z6 y6 x6]) := Lib.hid (Blk_drew HKD.out)
        have HYX : Hid ((Dcl.mk Z0 y0 x0 Z1 y1 x1 Z2 y2 x2 Z3 y3 x3 Z4 y4 x4 Z5 y5 x5 Z6 y6 x6).Rd D.drew D.drew.heap.size (aheadD d fb m).2) := Lib.hid ((HYD.out.below (Below.refl _ _).drew).more HBD.out.size)
        clear hHeld
        go_wp2_with (refine wpList_load_row rfl 24 _ rfl w.heap.size rfl 24 #[.slice Z0 y0 x0, .slice Z1 y1 x1, .slice Z2 y2 x2, .slice Z3 y3 x3, .slice Z4 y4 x4, .slice Z5 y5 x5, .slice Z6 y6 x6] (0, 0) _ HKX.out Tryd.underlying24 rfl dcl7_size ?_)
        refine (source_any ⟨Z0, y0, x0, Z1, y1, x1, Z2, y2, x2, Z3, y3, x3, Z4, y4, x4, Z5, y5, x5, Z6, y6, x6⟩ _ (aheadD d fb m).2 HYX.out (by rw [HYX.out.cnt]; exact HYS.out)).mono ?_
        rintro e w7 ⟨Y2, rfl, hY2, hb7⟩
        have HB7 := Lib.hid (HBX.out.trans (hb7.mono HBX.out.size))
        clear hb7
        go_wp2_with fail
        refine (pMake_any Y2 w7 (aheadD d fb m).2 (Fl.go HFL (by assumption)) hY2 (by rw [HYX.out.cnt]; exact HYS.out) HLA.out).mono ?_
        clear hY2
        rintro e w8 ⟨Au, nu, cu, he, ho, hb8⟩
        rw [HM2.out] at he
        obtain rfl : e = .returned (.tuple #[.slice Au nu cu, .agg #[.int .i64 0, .int .i64 0, .int .i64 0, .string ⟨#[]⟩]]) := he
        have HB8 := Lib.hid (HB7.out.trans (hb8.mono HB7.out.size))
        clear ho hb8
        have q0 : (w8.alloc (.cells #[.int .i64 0, .int .i64 0, .int .i64 0, .string ⟨#[]⟩] 30)).cell? ⟨w8.heap.size, 0, none⟩ = some (.int .i64 0) := (Blk.new w8 30 #[.int .i64 0, .int .i64 0, .int .i64 0, .string ⟨#[]⟩]).cell 0
        have q1 : (w8.alloc (.cells #[.int .i64 0, .int .i64 0, .int .i64 0, .string ⟨#[]⟩] 30)).cell? ⟨w8.heap.size, 1, none⟩ = some (.int .i64 0) := (Blk.new w8 30 #[.int .i64 0, .int .i64 0, .int .i64 0, .string ⟨#[]⟩]).cell 1
        have q2 : (w8.alloc (.cells #[.int .i64 0, .int .i64 0, .int .i64 0, .string ⟨#[]⟩] 30)).cell? ⟨w8.heap.size, 2, none⟩ = some (.int .i64 0) := (Blk.new w8 30 #[.int .i64 0, .int .i64 0, .int .i64 0, .string ⟨#[]⟩]).cell 2
        have q3 : (w8.alloc (.cells #[.int .i64 0, .int .i64 0, .int .i64 0, .string ⟨#[]⟩] 30)).cell? ⟨w8.heap.size, 3, none⟩ = some (.string ⟨#[]⟩) := (Blk.new w8 30 #[.int .i64 0, .int .i64 0, .int .i64 0, .string ⟨#[]⟩]).cell 3
        have e5 : ∀ (x y : Operand) (W : World), (eqGuard .eql 30 x y (.agg #[.int .i64 0, .int .i64 0, .int .i64 0, .string ⟨#[]⟩]) (.agg #[.int .i64 0, .int .i64 0, .int .i64 0, .string ⟨#[]⟩])).run Tryd.prog W = .ok () W := fun x y W => guard_fau .eql x y (0, 0, 0, []) (0, 0, 0, []) W
        have f5 : ∀ W : World, (binOp .eql 30 (.agg #[.int .i64 0, .int .i64 0, .int .i64 0, .string ⟨#[]⟩]) (.agg #[.int .i64 0, .int .i64 0, .int .i64 0, .string ⟨#[]⟩])).run Tryd.prog W = .ok (.bool true) W := fun W => (run_eql_fau (0, 0, 0, []) (0, 0, 0, []) W).trans (by simp)
        go_wp2_with fail
        refine (awake15_any _ (by first | exact Fl.go HFL (by assumption) | exact HFL.out.below (HB3.out.alloc HB3.out.size _) (Nat.le_refl _) | exact HFL.out.below (HB8.out.alloc HB8.out.size _) (Nat.le_refl _))).mono ?_
        rintro e wz ⟨rfl, hbz⟩
        have HB9 : Hid (Below w.heap.size w (w8.alloc (.cells #[.int .i64 0, .int .i64 0, .int .i64 0, .string ⟨#[]⟩] 30))) := Lib.hid (HB8.out.alloc HB8.out.size _)
        have HBZ := Lib.hid (HB9.out.trans (hbz.mono HB9.out.size))
        clear hbz
        go_wp2_with fail
        go_ret
        exact ⟨rfl, HBZ.out⟩
      · refine wp_region_held_drew (S := fun w' => Below D.heap.size D w') (by kernel_rfl) (Below.refl _ _).drew (fun hHeld => ?_)
        refine held_take (i := 0) (fuel := 34) (v := ?_) (by rw [List.getElem?_toArray]; rfl) (by kernel_rfl) (by kernel_rfl) (by kernel_rfl) hHeld ?_ ?_ ?_ ?_
        rotate_left
        · intro u hSw
          go_simp
          try with_reducible rfl
        · rfl
        · exact fun _ _ _ h => h
        try simp only [Act.put, List.setIfInBounds_toArray, List.set_cons_zero, List.set_cons_succ]
        refine held_take (i := 1) (fuel := 33) (v := ?_) (by rw [List.getElem?_toArray]; rfl) (by kernel_rfl) (by kernel_rfl) (by kernel_rfl) hHeld ?_ ?_ ?_ ?_
        rotate_left
        · intro u hSw
          have y0 := (hSw.cell (p := ⟨bF, 0, none⟩) hbF).trans c0
          have y2 := (hSw.cell (p := ⟨bF, 2, none⟩) hbF).trans c2
          have y3 := (hSw.cell (p := ⟨bF, 3, none⟩) hbF).trans c3
          go_simp
          try with_reducible rfl
        · rfl
        · exact fun _ _ _ h => h
        try simp only [Act.put, List.setIfInBounds_toArray, List.set_cons_zero, List.set_cons_succ]
        refine held_take (i := 2) (fuel := 32) (v := ?_) (by rw [List.getElem?_toArray]; rfl) (by kernel_rfl) (by kernel_rfl) (by kernel_rfl) hHeld ?_ ?_ ?_ ?_
        rotate_left
        · intro u hSw
          go_simp
          try with_reducible rfl
        · rfl
        · exact fun _ _ _ h => h
        try simp only [Act.put, List.setIfInBounds_toArray, List.set_cons_zero, List.set_cons_succ]
        refine held_take (i := 3) (fuel := 31) (v := ?_) (by rw [List.getElem?_toArray]; rfl) (by kernel_rfl) (by kernel_rfl) (by kernel_rfl) hHeld ?_ ?_ ?_ ?_
        rotate_left
        · intro u hSw
          go_simp
          try with_reducible rfl
        · rfl
        · exact fun _ _ _ h => h
        try simp only [Act.put, List.setIfInBounds_toArray, List.set_cons_zero, List.set_cons_succ]
        refine held_take (i := 4) (fuel := 30) (v := ?_) (by rw [List.getElem?_toArray]; rfl) (by kernel_rfl) (by kernel_rfl) (by kernel_rfl) hHeld ?_ ?_ ?_ ?_
        rotate_left
        · intro u hSw
          go_simp
          try with_reducible rfl
        · rfl
        · exact fun _ _ _ h => h
        try simp only [Act.put, List.setIfInBounds_toArray, List.set_cons_zero, List.set_cons_succ]
        refine held_take (i := 5) (fuel := 29) (v := ?_) (by rw [List.getElem?_toArray]; rfl) (by kernel_rfl) (by kernel_rfl) (by kernel_rfl) hHeld ?_ ?_ ?_ ?_
        rotate_left
        · intro u hSw
          have y0 := (hSw.cell (p := ⟨bF, 0, none⟩) hbF).trans c0
          have y2 := (hSw.cell (p := ⟨bF, 2, none⟩) hbF).trans c2
          have y3 := (hSw.cell (p := ⟨bF, 3, none⟩) hbF).trans c3
          go_simp
          try with_reducible rfl
        · rfl
        · exact fun _ _ _ h => h
        try simp only [Act.put, List.setIfInBounds_toArray, List.set_cons_zero, List.set_cons_succ]
        refine held_take (i := 6) (fuel := 28) (v := ?_) (by rw [List.getElem?_toArray]; rfl) (by kernel_rfl) (by kernel_rfl) (by kernel_rfl) hHeld ?_ ?_ ?_ ?_
        rotate_left
        · intro u hSw
          go_simp
          try with_reducible rfl
        · rfl
        · exact fun _ _ _ h => h
        try simp only [Act.put, List.setIfInBounds_toArray, List.set_cons_zero, List.set_cons_succ]
        refine held_take (i := 7) (fuel := 27) (v := ?_) (by rw [List.getElem?_toArray]; rfl) (by kernel_rfl) (by kernel_rfl) (by kernel_rfl) hHeld ?_ ?_ ?_ ?_
        rotate_left
        · intro u hSw
          go_simp
          try with_reducible rfl
        · rfl
        · exact fun _ _ _ h => h
        try simp only [Act.put, List.setIfInBounds_toArray, List.set_cons_zero, List.set_cons_succ]
        refine held_take (i := 8) (fuel := 26) (v := ?_) (by rw [List.getElem?_toArray]; rfl) (by kernel_rfl) (by kernel_rfl) (by kernel_rfl) hHeld ?_ ?_ ?_ ?_
        rotate_left
        · intro u hSw
          go_simp
          try with_reducible rfl
        · rfl
        · exact fun _ _ _ h => h
        try simp only [Act.put, List.setIfInBounds_toArray, List.set_cons_zero, List.set_cons_succ]
        refine held_take (i := 9) (fuel := 25) (v := ?_) (by rw [List.getElem?_toArray]; rfl) (by kernel_rfl) (by kernel_rfl) (by kernel_rfl) hHeld ?_ ?_ ?_ ?_
        rotate_left
        · intro u hSw
          go_simp
          try with_reducible rfl
        · rfl
        · exact fun _ _ _ h => h
        try simp only [Act.put, List.setIfInBounds_toArray, List.set_cons_zero, List.set_cons_succ]
        refine held_take (i := 10) (fuel := 24) (v := ?_) (by rw [List.getElem?_toArray]; rfl) (by kernel_rfl) (by kernel_rfl) (by kernel_rfl) hHeld ?_ ?_ ?_ ?_
        rotate_left
        · intro u hSw
          go_simp
          try with_reducible rfl
        · rfl
        · exact fun _ _ _ h => h
        try simp only [Act.put, List.setIfInBounds_toArray, List.set_cons_zero, List.set_cons_succ]
        refine held_take (i := 11) (fuel := 23) (v := ?_) (by rw [List.getElem?_toArray]; rfl) (by kernel_rfl) (by kernel_rfl) (by kernel_rfl) hHeld ?_ ?_ ?_ ?_
        rotate_left
        · intro u hSw
          go_simp
          try with_reducible rfl
        · rfl
        · exact fun _ _ _ h => h
        try simp only [Act.put, List.setIfInBounds_toArray, List.set_cons_zero, List.set_cons_succ]
        refine held_take (i := 12) (fuel := 22) (v := ?_) (by rw [List.getElem?_toArray]; rfl) (by kernel_rfl) (by kernel_rfl) (by kernel_rfl) hHeld ?_ ?_ ?_ ?_
        rotate_left
        · intro u hSw
          go_simp
          try with_reducible rfl
        · rfl
        · exact fun _ _ _ h => h
        try simp only [Act.put, List.setIfInBounds_toArray, List.set_cons_zero, List.set_cons_succ]
        refine held_take (i := 13) (fuel := 21) (v := ?_) (by rw [List.getElem?_toArray]; rfl) (by kernel_rfl) (by kernel_rfl) (by kernel_rfl) hHeld ?_ ?_ ?_ ?_
        rotate_left
        · intro u hSw
          have y0 := (hSw.cell (p := ⟨bF, 0, none⟩) hbF).trans c0
          have y2 := (hSw.cell (p := ⟨bF, 2, none⟩) hbF).trans c2
          have y3 := (hSw.cell (p := ⟨bF, 3, none⟩) hbF).trans c3
          go_simp
          try with_reducible rfl
        · rfl
        · exact fun _ _ _ h => h
        try simp only [Act.put, List.setIfInBounds_toArray, List.set_cons_zero, List.set_cons_succ]
        refine held_take (i := 14) (fuel := 20) (v := ?_) (by rw [List.getElem?_toArray]; rfl) (by kernel_rfl) (by kernel_rfl) (by kernel_rfl) hHeld ?_ ?_ ?_ ?_
        rotate_left
        · intro u hSw
          go_simp
          try with_reducible rfl
        · rfl
        · exact fun _ _ _ h => h
        try simp only [Act.put, List.setIfInBounds_toArray, List.set_cons_zero, List.set_cons_succ]
        refine held_take (i := 15) (fuel := 19) (v := ?_) (by rw [List.getElem?_toArray]; rfl) (by kernel_rfl) (by kernel_rfl) (by kernel_rfl) hHeld ?_ ?_ ?_ ?_
        rotate_left
        · intro u hSw
          have y9 := (hSw.cell (p := ad.add m) hbad).trans ep
          go_simp
          try with_reducible rfl
        · rfl
        · exact fun _ _ _ h => h
        try simp only [Act.put, List.setIfInBounds_toArray, List.set_cons_zero, List.set_cons_succ]
        refine held_take (i := 16) (fuel := 18) (v := ?_) (by rw [List.getElem?_toArray]; rfl) (by kernel_rfl) (by kernel_rfl) (by kernel_rfl) hHeld ?_ ?_ ?_ ?_
        rotate_left
        · intro u hSw
          go_simp
          try with_reducible rfl
        · rfl
        · exact fun _ _ _ h => h
        try simp only [Act.put, List.setIfInBounds_toArray, List.set_cons_zero, List.set_cons_succ]
        refine held_take (i := 17) (fuel := 17) (v := ?_) (by rw [List.getElem?_toArray]; rfl) (by kernel_rfl) (by kernel_rfl) (by kernel_rfl) hHeld ?_ ?_ ?_ ?_
        rotate_left
        · intro u hSw
          have y0 := (hSw.cell (p := ⟨bF, 0, none⟩) hbF).trans c0
          have y2 := (hSw.cell (p := ⟨bF, 2, none⟩) hbF).trans c2
          have y3 := (hSw.cell (p := ⟨bF, 3, none⟩) hbF).trans c3
          go_simp
          try with_reducible rfl
        · rfl
        · exact fun _ _ _ h => h
        try simp only [Act.put, List.setIfInBounds_toArray, List.set_cons_zero, List.set_cons_succ]
        refine held_take (i := 18) (fuel := 16) (v := ?_) (by rw [List.getElem?_toArray]; rfl) (by kernel_rfl) (by kernel_rfl) (by kernel_rfl) hHeld ?_ ?_ ?_ ?_
        rotate_left
        · intro u hSw
          go_simp
          try with_reducible rfl
        · rfl
        · exact fun _ _ _ h => h
        try simp only [Act.put, List.setIfInBounds_toArray, List.set_cons_zero, List.set_cons_succ]
        refine held_take (i := 19) (fuel := 15) (v := ?_) (by rw [List.getElem?_toArray]; rfl) (by kernel_rfl) (by kernel_rfl) (by kernel_rfl) hHeld ?_ ?_ ?_ ?_
        rotate_left
        · intro u hSw
          go_simp
          try with_reducible rfl
        · rfl
        · exact fun _ _ _ h => h
        try simp only [Act.put, List.setIfInBounds_toArray, List.set_cons_zero, List.set_cons_succ]
        refine held_take (i := 20) (fuel := 14) (v := ?_) (by rw [List.getElem?_toArray]; rfl) (by kernel_rfl) (by kernel_rfl) (by kernel_rfl) hHeld ?_ ?_ ?_ ?_
        rotate_left
        · intro u hSw
          go_simp
          try with_reducible rfl
        · rfl
        · exact fun _ _ _ h => h
        try simp only [Act.put, List.setIfInBounds_toArray, List.set_cons_zero, List.set_cons_succ]
        refine held_take (i := 21) (fuel := 13) (v := ?_) (by rw [List.getElem?_toArray]; rfl) (by kernel_rfl) (by kernel_rfl) (by kernel_rfl) hHeld ?_ ?_ ?_ ?_
        rotate_left
        · intro u hSw
          go_simp
          try with_reducible rfl
        · rfl
        · exact fun _ _ _ h => h
        try simp only [Act.put, List.setIfInBounds_toArray, List.set_cons_zero, List.set_cons_succ]
        refine held_take (i := 22) (fuel := 12) (v := ?_) (by rw [List.getElem?_toArray]; rfl) (by kernel_rfl) (by kernel_rfl) (by kernel_rfl) hHeld ?_ ?_ ?_ ?_
        rotate_left
        · intro u hSw
          have y0 := (hSw.cell (p := ⟨bF, 0, none⟩) hbF).trans c0
          have y2 := (hSw.cell (p := ⟨bF, 2, none⟩) hbF).trans c2
          have y3 := (hSw.cell (p := ⟨bF, 3, none⟩) hbF).trans c3
          go_simp
          try with_reducible rfl
        · rfl
        · exact fun _ _ _ h => h
        try simp only [Act.put, List.setIfInBounds_toArray, List.set_cons_zero, List.set_cons_succ]
        refine held_take (i := 23) (fuel := 11) (v := ?_) (by rw [List.getElem?_toArray]; rfl) (by kernel_rfl) (by kernel_rfl) (by kernel_rfl) hHeld ?_ ?_ ?_ ?_
        rotate_left
        · intro u hSw
          go_simp
          try with_reducible rfl
        · rfl
        · exact fun _ _ _ h => h
        try simp only [Act.put, List.setIfInBounds_toArray, List.set_cons_zero, List.set_cons_succ]
        refine held_take (i := 24) (fuel := 10) (v := ?_) (by rw [List.getElem?_toArray]; rfl) (by kernel_rfl) (by kernel_rfl) (by kernel_rfl) hHeld ?_ ?_ ?_ ?_
        rotate_left
        · intro u hSw
          go_simp
          try with_reducible rfl
        · rfl
        · exact fun _ _ _ h => h
        try simp only [Act.put, List.setIfInBounds_toArray, List.set_cons_zero, List.set_cons_succ]
        refine held_take (i := 25) (fuel := 9) (v := ?_) (by rw [List.getElem?_toArray]; rfl) (by kernel_rfl) (by kernel_rfl) (by kernel_rfl) hHeld ?_ ?_ ?_ ?_
        rotate_left
        · intro u hSw
          go_simp
          try with_reducible rfl
        · rfl
        · exact fun _ _ _ h => h
        try simp only [Act.put, List.setIfInBounds_toArray, List.set_cons_zero, List.set_cons_succ]
        refine held_take (i := 26) (fuel := 8) (v := ?_) (by rw [List.getElem?_toArray]; rfl) (by kernel_rfl) (by kernel_rfl) (by kernel_rfl) hHeld ?_ ?_ ?_ ?_
        rotate_left
        · intro u hSw
          have y0 := (hSw.cell (p := ⟨bF, 0, none⟩) hbF).trans c0
          have y2 := (hSw.cell (p := ⟨bF, 2, none⟩) hbF).trans c2
          have y3 := (hSw.cell (p := ⟨bF, 3, none⟩) hbF).trans c3
          go_simp
          try with_reducible rfl
        · rfl
        · exact fun _ _ _ h => h
        try simp only [Act.put, List.setIfInBounds_toArray, List.set_cons_zero, List.set_cons_succ]
        refine held_take (i := 27) (fuel := 7) (v := ?_) (by rw [List.getElem?_toArray]; rfl) (by kernel_rfl) (by kernel_rfl) (by kernel_rfl) hHeld ?_ ?_ ?_ ?_
        rotate_left
        · intro u hSw
          go_simp
          try with_reducible rfl
        · rfl
        · exact fun _ _ _ h => h
        try simp only [Act.put, List.setIfInBounds_toArray, List.set_cons_zero, List.set_cons_succ]
        refine held_take (i := 28) (fuel := 6) (v := ?_) (by rw [List.getElem?_toArray]; rfl) (by kernel_rfl) (by kernel_rfl) (by kernel_rfl) hHeld ?_ ?_ ?_ ?_
        rotate_left
        · intro u hSw
          go_simp
          try with_reducible rfl
        · rfl
        · exact fun _ _ _ h => h
        try simp only [Act.put, List.setIfInBounds_toArray, List.set_cons_zero, List.set_cons_succ]
        refine held_take (i := 29) (fuel := 5) (v := ?_) (by rw [List.getElem?_toArray]; rfl) (by kernel_rfl) (by kernel_rfl) (by kernel_rfl) hHeld ?_ ?_ ?_ ?_
        rotate_left
        · intro u hSw
          go_simp
          try with_reducible rfl
        · rfl
        · exact fun _ _ _ h => h
        try simp only [Act.put, List.setIfInBounds_toArray, List.set_cons_zero, List.set_cons_succ]
        refine held_skip (i := 30) (fuel := 4) (by rw [List.getElem?_toArray]; rfl) (by kernel_rfl) (by kernel_rfl) (by kernel_rfl) hHeld ?_ ?_ ?_
        · rfl
        · exact fun _ _ _ h => h
        try simp only [Act.put, List.setIfInBounds_toArray, List.set_cons_zero, List.set_cons_succ]
        refine held_skip (i := 31) (fuel := 3) (by rw [List.getElem?_toArray]; rfl) (by kernel_rfl) (by kernel_rfl) (by kernel_rfl) hHeld ?_ ?_ ?_
        · rfl
        · exact fun _ _ _ h => h
        try simp only [Act.put, List.setIfInBounds_toArray, List.set_cons_zero, List.set_cons_succ]
        refine held_skip (i := 32) (fuel := 2) (by rw [List.getElem?_toArray]; rfl) (by kernel_rfl) (by kernel_rfl) (by kernel_rfl) hHeld ?_ ?_ ?_
        · rfl
        · exact fun _ _ _ h => h
        try simp only [Act.put, List.setIfInBounds_toArray, List.set_cons_zero, List.set_cons_succ]
        refine held_take (i := 33) (fuel := 1) (v := ?_) (by rw [List.getElem?_toArray]; rfl) (by kernel_rfl) (by kernel_rfl) (by kernel_rfl) hHeld ?_ ?_ ?_ ?_
        rotate_left
        · intro u hSw
          go_simp
          try with_reducible rfl
        · rfl
        · exact fun _ _ _ h => h
        try simp only [Act.put, List.setIfInBounds_toArray, List.set_cons_zero, List.set_cons_succ]
        refine held_take (i := 34) (fuel := 0) (v := ?_) (by rw [List.getElem?_toArray]; rfl) (by kernel_rfl) (by kernel_rfl) (by kernel_rfl) hHeld ?_ ?_ ?_ ?_
        rotate_left
        · intro u hSw
          go_simp
          try with_reducible rfl
        · rfl
        · exact fun _ _ _ h => h
        try simp only [Act.put, List.setIfInBounds_toArray, List.set_cons_zero, List.set_cons_succ]
        refine wpAnyH_done (by kernel_rfl) ?_ _
        have HBX := Lib.hid (HBD.out.trans (hHeld.mono HBD.out.size))
        have HKX : Hid (Blk D.drew w.heap.size 24 #[.slice Z0 y0 x0, .slice Z1 y1 x1, .slice Z2 y2 x2, .slice Z3 y3 x3, .slice Z4 y4 x4, .slice Z5 y5 x5, .slice Z6 y6 x6]) := Lib.hid (Blk_drew HKD.out)
        have HYX : Hid ((Dcl.mk Z0 y0 x0 Z1 y1 x1 Z2 y2 x2 Z3 y3 x3 Z4 y4 x4 Z5 y5 x5 Z6 y6 x6).Rd D.drew D.drew.heap.size (aheadD d fb m).2) := Lib.hid ((HYD.out.below (Below.refl _ _).drew).more HBD.out.size)
        clear hHeld
        go_wp2_with (refine wpList_load_row rfl 24 _ rfl w.heap.size rfl 24 #[.slice Z0 y0 x0, .slice Z1 y1 x1, .slice Z2 y2 x2, .slice Z3 y3 x3, .slice Z4 y4 x4, .slice Z5 y5 x5, .slice Z6 y6 x6] (0, 0) _ HKX.out Tryd.underlying24 rfl dcl7_size ?_)
        refine (source_any ⟨Z0, y0, x0, Z1, y1, x1, Z2, y2, x2, Z3, y3, x3, Z4, y4, x4, Z5, y5, x5, Z6, y6, x6⟩ _ (aheadD d fb m).2 HYX.out (by rw [HYX.out.cnt]; exact HYS.out)).mono ?_
        rintro e w7 ⟨Y2, rfl, hY2, hb7⟩
        have HB7 := Lib.hid (HBX.out.trans (hb7.mono HBX.out.size))
        clear hb7
        go_wp2_with fail
        refine (pMake_any Y2 w7 (aheadD d fb m).2 (Fl.go HFL (by assumption)) hY2 (by rw [HYX.out.cnt]; exact HYS.out) HLA.out).mono ?_
        clear hY2
        rintro e w8 ⟨Au, nu, cu, he, ho, hb8⟩
        rw [HM2.out] at he
        obtain rfl : e = .returned (.tuple #[.slice Au nu cu, .agg #[.int .i64 0, .int .i64 0, .int .i64 0, .string ⟨#[]⟩]]) := he
        have HB8 := Lib.hid (HB7.out.trans (hb8.mono HB7.out.size))
        clear ho hb8
        have q0 : (w8.alloc (.cells #[.int .i64 0, .int .i64 0, .int .i64 0, .string ⟨#[]⟩] 30)).cell? ⟨w8.heap.size, 0, none⟩ = some (.int .i64 0) := (Blk.new w8 30 #[.int .i64 0, .int .i64 0, .int .i64 0, .string ⟨#[]⟩]).cell 0
        have q1 : (w8.alloc (.cells #[.int .i64 0, .int .i64 0, .int .i64 0, .string ⟨#[]⟩] 30)).cell? ⟨w8.heap.size, 1, none⟩ = some (.int .i64 0) := (Blk.new w8 30 #[.int .i64 0, .int .i64 0, .int .i64 0, .string ⟨#[]⟩]).cell 1
        have q2 : (w8.alloc (.cells #[.int .i64 0, .int .i64 0, .int .i64 0, .string ⟨#[]⟩] 30)).cell? ⟨w8.heap.size, 2, none⟩ = some (.int .i64 0) := (Blk.new w8 30 #[.int .i64 0, .int .i64 0, .int .i64 0, .string ⟨#[]⟩]).cell 2
        have q3 : (w8.alloc (.cells #[.int .i64 0, .int .i64 0, .int .i64 0, .string ⟨#[]⟩] 30)).cell? ⟨w8.heap.size, 3, none⟩ = some (.string ⟨#[]⟩) := (Blk.new w8 30 #[.int .i64 0, .int .i64 0, .int .i64 0, .string ⟨#[]⟩]).cell 3
        have e5 : ∀ (x y : Operand) (W : World), (eqGuard .eql 30 x y (.agg #[.int .i64 0, .int .i64 0, .int .i64 0, .string ⟨#[]⟩]) (.agg #[.int .i64 0, .int .i64 0, .int .i64 0, .string ⟨#[]⟩])).run Tryd.prog W = .ok () W := fun x y W => guard_fau .eql x y (0, 0, 0, []) (0, 0, 0, []) W
        have f5 : ∀ W : World, (binOp .eql 30 (.agg #[.int .i64 0, .int .i64 0, .int .i64 0, .string ⟨#[]⟩]) (.agg #[.int .i64 0, .int .i64 0, .int .i64 0, .string ⟨#[]⟩])).run Tryd.prog W = .ok (.bool true) W := fun W => (run_eql_fau (0, 0, 0, []) (0, 0, 0, []) W).trans (by simp)
        go_wp2_with fail
        refine (awake15_any _ (by first | exact Fl.go HFL (by assumption) | exact HFL.out.below (HB3.out.alloc HB3.out.size _) (Nat.le_refl _) | exact HFL.out.below (HB8.out.alloc HB8.out.size _) (Nat.le_refl _))).mono ?_
        rintro e wz ⟨rfl, hbz⟩
        have HB9 : Hid (Below w.heap.size w (w8.alloc (.cells #[.int .i64 0, .int .i64 0, .int .i64 0, .string ⟨#[]⟩] 30))) := Lib.hid (HB8.out.alloc HB8.out.size _)
        have HBZ := Lib.hid (HB9.out.trans (hbz.mono HB9.out.size))
        clear hbz
        go_wp2_with fail
        go_ret
        exact ⟨rfl, HBZ.out⟩
      · refine wp_region_held_drew (S := fun w' => Below D.heap.size D w') (by kernel_rfl) (Below.refl _ _).drew (fun hHeld => ?_)
        refine held_take (i := 0) (fuel := 34) (v := ?_) (by rw [List.getElem?_toArray]; rfl) (by kernel_rfl) (by kernel_rfl) (by kernel_rfl) hHeld ?_ ?_ ?_ ?_
        rotate_left
        · intro u hSw
          go_simp
          try with_reducible rfl
        · rfl
        · exact fun _ _ _ h => h
        try simp only [Act.put, List.setIfInBounds_toArray, List.set_cons_zero, List.set_cons_succ]
        refine held_take (i := 1) (fuel := 33) (v := ?_) (by rw [List.getElem?_toArray]; rfl) (by kernel_rfl) (by kernel_rfl) (by kernel_rfl) hHeld ?_ ?_ ?_ ?_
        rotate_left
        · intro u hSw
          have y0 := (hSw.cell (p := ⟨bF, 0, none⟩) hbF).trans c0
          have y2 := (hSw.cell (p := ⟨bF, 2, none⟩) hbF).trans c2
          have y3 := (hSw.cell (p := ⟨bF, 3, none⟩) hbF).trans c3
          go_simp
          try with_reducible rfl
        · rfl
        · exact fun _ _ _ h => h
        try simp only [Act.put, List.setIfInBounds_toArray, List.set_cons_zero, List.set_cons_succ]
        refine held_take (i := 2) (fuel := 32) (v := ?_) (by rw [List.getElem?_toArray]; rfl) (by kernel_rfl) (by kernel_rfl) (by kernel_rfl) hHeld ?_ ?_ ?_ ?_
        rotate_left
        · intro u hSw
          go_simp
          try with_reducible rfl
        · rfl
        · exact fun _ _ _ h => h
        try simp only [Act.put, List.setIfInBounds_toArray, List.set_cons_zero, List.set_cons_succ]
        refine held_take (i := 3) (fuel := 31) (v := ?_) (by rw [List.getElem?_toArray]; rfl) (by kernel_rfl) (by kernel_rfl) (by kernel_rfl) hHeld ?_ ?_ ?_ ?_
        rotate_left
        · intro u hSw
          go_simp
          try with_reducible rfl
        · rfl
        · exact fun _ _ _ h => h
        try simp only [Act.put, List.setIfInBounds_toArray, List.set_cons_zero, List.set_cons_succ]
        refine held_take (i := 4) (fuel := 30) (v := ?_) (by rw [List.getElem?_toArray]; rfl) (by kernel_rfl) (by kernel_rfl) (by kernel_rfl) hHeld ?_ ?_ ?_ ?_
        rotate_left
        · intro u hSw
          go_simp
          try with_reducible rfl
        · rfl
        · exact fun _ _ _ h => h
        try simp only [Act.put, List.setIfInBounds_toArray, List.set_cons_zero, List.set_cons_succ]
        refine held_take (i := 5) (fuel := 29) (v := ?_) (by rw [List.getElem?_toArray]; rfl) (by kernel_rfl) (by kernel_rfl) (by kernel_rfl) hHeld ?_ ?_ ?_ ?_
        rotate_left
        · intro u hSw
          have y0 := (hSw.cell (p := ⟨bF, 0, none⟩) hbF).trans c0
          have y2 := (hSw.cell (p := ⟨bF, 2, none⟩) hbF).trans c2
          have y3 := (hSw.cell (p := ⟨bF, 3, none⟩) hbF).trans c3
          go_simp
          try with_reducible rfl
        · rfl
        · exact fun _ _ _ h => h
        try simp only [Act.put, List.setIfInBounds_toArray, List.set_cons_zero, List.set_cons_succ]
        refine held_take (i := 6) (fuel := 28) (v := ?_) (by rw [List.getElem?_toArray]; rfl) (by kernel_rfl) (by kernel_rfl) (by kernel_rfl) hHeld ?_ ?_ ?_ ?_
        rotate_left
        · intro u hSw
          go_simp
          try with_reducible rfl
        · rfl
        · exact fun _ _ _ h => h
        try simp only [Act.put, List.setIfInBounds_toArray, List.set_cons_zero, List.set_cons_succ]
        refine held_take (i := 7) (fuel := 27) (v := ?_) (by rw [List.getElem?_toArray]; rfl) (by kernel_rfl) (by kernel_rfl) (by kernel_rfl) hHeld ?_ ?_ ?_ ?_
        rotate_left
        · intro u hSw
          go_simp
          try with_reducible rfl
        · rfl
        · exact fun _ _ _ h => h
        try simp only [Act.put, List.setIfInBounds_toArray, List.set_cons_zero, List.set_cons_succ]
        refine held_take (i := 8) (fuel := 26) (v := ?_) (by rw [List.getElem?_toArray]; rfl) (by kernel_rfl) (by kernel_rfl) (by kernel_rfl) hHeld ?_ ?_ ?_ ?_
        rotate_left
        · intro u hSw
          go_simp
          try with_reducible rfl
        · rfl
        · exact fun _ _ _ h => h
        try simp only [Act.put, List.setIfInBounds_toArray, List.set_cons_zero, List.set_cons_succ]
        refine held_take (i := 9) (fuel := 25) (v := ?_) (by rw [List.getElem?_toArray]; rfl) (by kernel_rfl) (by kernel_rfl) (by kernel_rfl) hHeld ?_ ?_ ?_ ?_
        rotate_left
        · intro u hSw
          go_simp
          try with_reducible rfl
        · rfl
        · exact fun _ _ _ h => h
        try simp only [Act.put, List.setIfInBounds_toArray, List.set_cons_zero, List.set_cons_succ]
        refine held_take (i := 10) (fuel := 24) (v := ?_) (by rw [List.getElem?_toArray]; rfl) (by kernel_rfl) (by kernel_rfl) (by kernel_rfl) hHeld ?_ ?_ ?_ ?_
        rotate_left
        · intro u hSw
          go_simp
          try with_reducible rfl
        · rfl
        · exact fun _ _ _ h => h
        try simp only [Act.put, List.setIfInBounds_toArray, List.set_cons_zero, List.set_cons_succ]
        refine held_take (i := 11) (fuel := 23) (v := ?_) (by rw [List.getElem?_toArray]; rfl) (by kernel_rfl) (by kernel_rfl) (by kernel_rfl) hHeld ?_ ?_ ?_ ?_
        rotate_left
        · intro u hSw
          go_simp
          try with_reducible rfl
        · rfl
        · exact fun _ _ _ h => h
        try simp only [Act.put, List.setIfInBounds_toArray, List.set_cons_zero, List.set_cons_succ]
        refine held_take (i := 12) (fuel := 22) (v := ?_) (by rw [List.getElem?_toArray]; rfl) (by kernel_rfl) (by kernel_rfl) (by kernel_rfl) hHeld ?_ ?_ ?_ ?_
        rotate_left
        · intro u hSw
          go_simp
          try with_reducible rfl
        · rfl
        · exact fun _ _ _ h => h
        try simp only [Act.put, List.setIfInBounds_toArray, List.set_cons_zero, List.set_cons_succ]
        refine held_take (i := 13) (fuel := 21) (v := ?_) (by rw [List.getElem?_toArray]; rfl) (by kernel_rfl) (by kernel_rfl) (by kernel_rfl) hHeld ?_ ?_ ?_ ?_
        rotate_left
        · intro u hSw
          have y0 := (hSw.cell (p := ⟨bF, 0, none⟩) hbF).trans c0
          have y2 := (hSw.cell (p := ⟨bF, 2, none⟩) hbF).trans c2
          have y3 := (hSw.cell (p := ⟨bF, 3, none⟩) hbF).trans c3
          go_simp
          try with_reducible rfl
        · rfl
        · exact fun _ _ _ h => h
        try simp only [Act.put, List.setIfInBounds_toArray, List.set_cons_zero, List.set_cons_succ]
        refine held_take (i := 14) (fuel := 20) (v := ?_) (by rw [List.getElem?_toArray]; rfl) (by kernel_rfl) (by kernel_rfl) (by kernel_rfl) hHeld ?_ ?_ ?_ ?_
        rotate_left
        · intro u hSw
          go_simp
          try with_reducible rfl
        · rfl
        · exact fun _ _ _ h => h
        try simp only [Act.put, List.setIfInBounds_toArray, List.set_cons_zero, List.set_cons_succ]
        refine held_take (i := 15) (fuel := 19) (v := ?_) (by rw [List.getElem?_toArray]; rfl) (by kernel_rfl) (by kernel_rfl) (by kernel_rfl) hHeld ?_ ?_ ?_ ?_
        rotate_left
        · intro u hSw
          have y9 := (hSw.cell (p := ad.add m) hbad).trans ep
          go_simp
          try with_reducible rfl
        · rfl
        · exact fun _ _ _ h => h
        try simp only [Act.put, List.setIfInBounds_toArray, List.set_cons_zero, List.set_cons_succ]
        refine held_take (i := 16) (fuel := 18) (v := ?_) (by rw [List.getElem?_toArray]; rfl) (by kernel_rfl) (by kernel_rfl) (by kernel_rfl) hHeld ?_ ?_ ?_ ?_
        rotate_left
        · intro u hSw
          go_simp
          try with_reducible rfl
        · rfl
        · exact fun _ _ _ h => h
        try simp only [Act.put, List.setIfInBounds_toArray, List.set_cons_zero, List.set_cons_succ]
        refine held_take (i := 17) (fuel := 17) (v := ?_) (by rw [List.getElem?_toArray]; rfl) (by kernel_rfl) (by kernel_rfl) (by kernel_rfl) hHeld ?_ ?_ ?_ ?_
        rotate_left
        · intro u hSw
          have y0 := (hSw.cell (p := ⟨bF, 0, none⟩) hbF).trans c0
          have y2 := (hSw.cell (p := ⟨bF, 2, none⟩) hbF).trans c2
          have y3 := (hSw.cell (p := ⟨bF, 3, none⟩) hbF).trans c3
          go_simp
          try with_reducible rfl
        · rfl
        · exact fun _ _ _ h => h
        try simp only [Act.put, List.setIfInBounds_toArray, List.set_cons_zero, List.set_cons_succ]
        refine held_take (i := 18) (fuel := 16) (v := ?_) (by rw [List.getElem?_toArray]; rfl) (by kernel_rfl) (by kernel_rfl) (by kernel_rfl) hHeld ?_ ?_ ?_ ?_
        rotate_left
        · intro u hSw
          go_simp
          try with_reducible rfl
        · rfl
        · exact fun _ _ _ h => h
        try simp only [Act.put, List.setIfInBounds_toArray, List.set_cons_zero, List.set_cons_succ]
        refine held_take (i := 19) (fuel := 15) (v := ?_) (by rw [List.getElem?_toArray]; rfl) (by kernel_rfl) (by kernel_rfl) (by kernel_rfl) hHeld ?_ ?_ ?_ ?_
        rotate_left
        · intro u hSw
          go_simp
          try with_reducible rfl
        · rfl
        · exact fun _ _ _ h => h
        try simp only [Act.put, List.setIfInBounds_toArray, List.set_cons_zero, List.set_cons_succ]
        refine held_take (i := 20) (fuel := 14) (v := ?_) (by rw [List.getElem?_toArray]; rfl) (by kernel_rfl) (by kernel_rfl) (by kernel_rfl) hHeld ?_ ?_ ?_ ?_
        rotate_left
        · intro u hSw
          go_simp
          try with_reducible rfl
        · rfl
        · exact fun _ _ _ h => h
        try simp only [Act.put, List.setIfInBounds_toArray, List.set_cons_zero, List.set_cons_succ]
        refine held_take (i := 21) (fuel := 13) (v := ?_) (by rw [List.getElem?_toArray]; rfl) (by kernel_rfl) (by kernel_rfl) (by kernel_rfl) hHeld ?_ ?_ ?_ ?_
        rotate_left
        · intro u hSw
          go_simp
          try with_reducible rfl
        · rfl
        · exact fun _ _ _ h => h
        try simp only [Act.put, List.setIfInBounds_toArray, List.set_cons_zero, List.set_cons_succ]
        refine held_take (i := 22) (fuel := 12) (v := ?_) (by rw [List.getElem?_toArray]; rfl) (by kernel_rfl) (by kernel_rfl) (by kernel_rfl) hHeld ?_ ?_ ?_ ?_
        rotate_left
        · intro u hSw
          have y0 := (hSw.cell (p := ⟨bF, 0, none⟩) hbF).trans c0
          have y2 := (hSw.cell (p := ⟨bF, 2, none⟩) hbF).trans c2
          have y3 := (hSw.cell (p := ⟨bF, 3, none⟩) hbF).trans c3
          go_simp
          try with_reducible rfl
        · rfl
        · exact fun _ _ _ h => h
        try simp only [Act.put, List.setIfInBounds_toArray, List.set_cons_zero, List.set_cons_succ]
        refine held_take (i := 23) (fuel := 11) (v := ?_) (by rw [List.getElem?_toArray]; rfl) (by kernel_rfl) (by kernel_rfl) (by kernel_rfl) hHeld ?_ ?_ ?_ ?_
        rotate_left
        · intro u hSw
          go_simp
          try with_reducible rfl
        · rfl
        · exact fun _ _ _ h => h
        try simp only [Act.put, List.setIfInBounds_toArray, List.set_cons_zero, List.set_cons_succ]
        refine held_take (i := 24) (fuel := 10) (v := ?_) (by rw [List.getElem?_toArray]; rfl) (by kernel_rfl) (by kernel_rfl) (by kernel_rfl) hHeld ?_ ?_ ?_ ?_
        rotate_left
        · intro u hSw
          go_simp
          try with_reducible rfl
        · rfl
        · exact fun _ _ _ h => h
        try simp only [Act.put, List.setIfInBounds_toArray, List.set_cons_zero, List.set_cons_succ]
        refine held_take (i := 25) (fuel := 9) (v := ?_) (by rw [List.getElem?_toArray]; rfl) (by kernel_rfl) (by kernel_rfl) (by kernel_rfl) hHeld ?_ ?_ ?_ ?_
        rotate_left
        · intro u hSw
          go_simp
          try with_reducible rfl
        · rfl
        · exact fun _ _ _ h => h
        try simp only [Act.put, List.setIfInBounds_toArray, List.set_cons_zero, List.set_cons_succ]
        refine held_take (i := 26) (fuel := 8) (v := ?_) (by rw [List.getElem?_toArray]; rfl) (by kernel_rfl) (by kernel_rfl) (by kernel_rfl) hHeld ?_ ?_ ?_ ?_
        rotate_left
        · intro u hSw
          have y0 := (hSw.cell (p := ⟨bF, 0, none⟩) hbF).trans c0
          have y2 := (hSw.cell (p := ⟨bF, 2, none⟩) hbF).trans c2
          have y3 := (hSw.cell (p := ⟨bF, 3, none⟩) hbF).trans c3
          go_simp
          try with_reducible rfl
        · rfl
        · exact fun _ _ _ h => h
        try simp only [Act.put, List.setIfInBounds_toArray, List.set_cons_zero, List.set_cons_succ]
        refine held_take (i := 27) (fuel := 7) (v := ?_) (by rw [List.getElem?_toArray]; rfl) (by kernel_rfl) (by kernel_rfl) (by kernel_rfl) hHeld ?_ ?_ ?_ ?_
        rotate_left
        · intro u hSw
          go_simp
          try with_reducible rfl
        · rfl
        · exact fun _ _ _ h => h
        try simp only [Act.put, List.setIfInBounds_toArray, List.set_cons_zero, List.set_cons_succ]
        refine held_take (i := 28) (fuel := 6) (v := ?_) (by rw [List.getElem?_toArray]; rfl) (by kernel_rfl) (by kernel_rfl) (by kernel_rfl) hHeld ?_ ?_ ?_ ?_
        rotate_left
        · intro u hSw
          go_simp
          try with_reducible rfl
        · rfl
        · exact fun _ _ _ h => h
        try simp only [Act.put, List.setIfInBounds_toArray, List.set_cons_zero, List.set_cons_succ]
        refine held_take (i := 29) (fuel := 5) (v := ?_) (by rw [List.getElem?_toArray]; rfl) (by kernel_rfl) (by kernel_rfl) (by kernel_rfl) hHeld ?_ ?_ ?_ ?_
        rotate_left
        · intro u hSw
          go_simp
          try with_reducible rfl
        · rfl
        · exact fun _ _ _ h => h
        try simp only [Act.put, List.setIfInBounds_toArray, List.set_cons_zero, List.set_cons_succ]
        refine held_take (i := 30) (fuel := 4) (v := ?_) (by rw [List.getElem?_toArray]; rfl) (by kernel_rfl) (by kernel_rfl) (by kernel_rfl) hHeld ?_ ?_ ?_ ?_
        rotate_left
        · intro u hSw
          go_simp
          try with_reducible rfl
        · rfl
        · exact fun _ _ _ h => h
        try simp only [Act.put, List.setIfInBounds_toArray, List.set_cons_zero, List.set_cons_succ]
        refine held_take (i := 31) (fuel := 3) (v := ?_) (by rw [List.getElem?_toArray]; rfl) (by kernel_rfl) (by kernel_rfl) (by kernel_rfl) hHeld ?_ ?_ ?_ ?_
        rotate_left
        · intro u hSw
          have y0 := (hSw.cell (p := ⟨bF, 0, none⟩) hbF).trans c0
          have y2 := (hSw.cell (p := ⟨bF, 2, none⟩) hbF).trans c2
          have y3 := (hSw.cell (p := ⟨bF, 3, none⟩) hbF).trans c3
          go_simp
          try with_reducible rfl
        · rfl
        · exact fun _ _ _ h => h
        try simp only [Act.put, List.setIfInBounds_toArray, List.set_cons_zero, List.set_cons_succ]
        refine held_take (i := 32) (fuel := 2) (v := ?_) (by rw [List.getElem?_toArray]; rfl) (by kernel_rfl) (by kernel_rfl) (by kernel_rfl) hHeld ?_ ?_ ?_ ?_
        rotate_left
        · intro u hSw
          go_simp
          try with_reducible rfl
        · rfl
        · exact fun _ _ _ h => h
        try simp only [Act.put, List.setIfInBounds_toArray, List.set_cons_zero, List.set_cons_succ]
        refine held_take (i := 33) (fuel := 1) (v := ?_) (by rw [List.getElem?_toArray]; rfl) (by kernel_rfl) (by kernel_rfl) (by kernel_rfl) hHeld ?_ ?_ ?_ ?_
        rotate_left
        · intro u hSw
          go_simp
          try with_reducible rfl
        · rfl
        · exact fun _ _ _ h => h
        try simp only [Act.put, List.setIfInBounds_toArray, List.set_cons_zero, List.set_cons_succ]
        refine held_take (i := 34) (fuel := 0) (v := ?_) (by rw [List.getElem?_toArray]; rfl) (by kernel_rfl) (by kernel_rfl) (by kernel_rfl) hHeld ?_ ?_ ?_ ?_
        rotate_left
        · intro u hSw
          go_simp
          try with_reducible rfl
        · rfl
        · exact fun _ _ _ h => h
        try simp only [Act.put, List.setIfInBounds_toArray, List.set_cons_zero, List.set_cons_succ]
        refine wpAnyH_done (by kernel_rfl) ?_ _
        have HBX := Lib.hid (HBD.out.trans (hHeld.mono HBD.out.size))
        have HKX : Hid (Blk D.drew w.heap.size 24 #[.slice Z0 y0 x0, .slice Z1 y1 x1, .slice Z2 y2 x2, .slice Z3 y3 x3, .slice Z4 y4 x4, .slice Z5 y5 x5, .slice Z6 y6 x6]) := Lib.hid (Blk_drew HKD.out)
        have HYX : Hid ((Dcl.mk Z0 y0 x0 Z1 y1 x1 Z2 y2 x2 Z3 y3 x3 Z4 y4 x4 Z5 y5 x5 Z6 y6 x6).Rd D.drew D.drew.heap.size (aheadD d fb m).2) := Lib.hid ((HYD.out.below (Below.refl _ _).drew).more HBD.out.size)
        clear hHeld
        go_wp2_with (refine wpList_load_row rfl 24 _ rfl w.heap.size rfl 24 #[.slice Z0 y0 x0, .slice Z1 y1 x1, .slice Z2 y2 x2, .slice Z3 y3 x3, .slice Z4 y4 x4, .slice Z5 y5 x5, .slice Z6 y6 x6] (0, 0) _ HKX.out Tryd.underlying24 rfl dcl7_size ?_)
        refine (source_any ⟨Z0, y0, x0, Z1, y1, x1, Z2, y2, x2, Z3, y3, x3, Z4, y4, x4, Z5, y5, x5, Z6, y6, x6⟩ _ (aheadD d fb m).2 HYX.out (by rw [HYX.out.cnt]; exact HYS.out)).mono ?_
        rintro e w7 ⟨Y2, rfl, hY2, hb7⟩
        have HB7 := Lib.hid (HBX.out.trans (hb7.mono HBX.out.size))
        clear hb7
        go_wp2_with fail
        refine (pMake_any Y2 w7 (aheadD d fb m).2 (Fl.go HFL (by assumption)) hY2 (by rw [HYX.out.cnt]; exact HYS.out) HLA.out).mono ?_
        clear hY2
        rintro e w8 ⟨Au, nu, cu, he, ho, hb8⟩
        rw [HM2.out] at he
        obtain rfl : e = .returned (.tuple #[.slice Au nu cu, .agg #[.int .i64 0, .int .i64 0, .int .i64 0, .string ⟨#[]⟩]]) := he
        have HB8 := Lib.hid (HB7.out.trans (hb8.mono HB7.out.size))
        clear ho hb8
        have q0 : (w8.alloc (.cells #[.int .i64 0, .int .i64 0, .int .i64 0, .string ⟨#[]⟩] 30)).cell? ⟨w8.heap.size, 0, none⟩ = some (.int .i64 0) := (Blk.new w8 30 #[.int .i64 0, .int .i64 0, .int .i64 0, .string ⟨#[]⟩]).cell 0
        have q1 : (w8.alloc (.cells #[.int .i64 0, .int .i64 0, .int .i64 0, .string ⟨#[]⟩] 30)).cell? ⟨w8.heap.size, 1, none⟩ = some (.int .i64 0) := (Blk.new w8 30 #[.int .i64 0, .int .i64 0, .int .i64 0, .string ⟨#[]⟩]).cell 1
        have q2 : (w8.alloc (.cells #[.int .i64 0, .int .i64 0, .int .i64 0, .string ⟨#[]⟩] 30)).cell? ⟨w8.heap.size, 2, none⟩ = some (.int .i64 0) := (Blk.new w8 30 #[.int .i64 0, .int .i64 0, .int .i64 0, .string ⟨#[]⟩]).cell 2
        have q3 : (w8.alloc (.cells #[.int .i64 0, .int .i64 0, .int .i64 0, .string ⟨#[]⟩] 30)).cell? ⟨w8.heap.size, 3, none⟩ = some (.string ⟨#[]⟩) := (Blk.new w8 30 #[.int .i64 0, .int .i64 0, .int .i64 0, .string ⟨#[]⟩]).cell 3
        have e5 : ∀ (x y : Operand) (W : World), (eqGuard .eql 30 x y (.agg #[.int .i64 0, .int .i64 0, .int .i64 0, .string ⟨#[]⟩]) (.agg #[.int .i64 0, .int .i64 0, .int .i64 0, .string ⟨#[]⟩])).run Tryd.prog W = .ok () W := fun x y W => guard_fau .eql x y (0, 0, 0, []) (0, 0, 0, []) W
        have f5 : ∀ W : World, (binOp .eql 30 (.agg #[.int .i64 0, .int .i64 0, .int .i64 0, .string ⟨#[]⟩]) (.agg #[.int .i64 0, .int .i64 0, .int .i64 0, .string ⟨#[]⟩])).run Tryd.prog W = .ok (.bool true) W := fun W => (run_eql_fau (0, 0, 0, []) (0, 0, 0, []) W).trans (by simp)
        go_wp2_with fail
        refine (awake15_any _ (by first | exact Fl.go HFL (by assumption) | exact HFL.out.below (HB3.out.alloc HB3.out.size _) (Nat.le_refl _) | exact HFL.out.below (HB8.out.alloc HB8.out.size _) (Nat.le_refl _))).mono ?_
        rintro e wz ⟨rfl, hbz⟩
        have HB9 : Hid (Below w.heap.size w (w8.alloc (.cells #[.int .i64 0, .int .i64 0, .int .i64 0, .string ⟨#[]⟩] 30))) := Lib.hid (HB8.out.alloc HB8.out.size _)
        have HBZ := Lib.hid (HB9.out.trans (hbz.mono HB9.out.size))
        clear hbz
        go_wp2_with fail
        go_ret
        exact ⟨rfl, HBZ.out⟩
  · go_enter Tryd.func6, Tryd.ntmps6
    go_wp2_with fail
    rw [← hW]
    clear hW
    go_wp2_with (refine wpList_load_row rfl 24 _ rfl w.heap.size rfl 24 #[.slice A0 n0 c0, .slice A1 n1 c1, .slice A2 n2 c2, .slice A3 n3 c3, .slice A4 n4 c4, .slice A5 n5 c5, .slice A6 n6 c6] (0, 0) _ HK0.out Tryd.underlying24 rfl dcl7_size ?_)
    refine (count_any ⟨A0, n0, c0, A1, n1, c1, A2, n2, c2, A3, n3, c3, A4, n4, c4, A5, n5, c5, A6, n6, c6⟩ W HBD.out).mono ?_
    rintro e w1 ⟨he, hb1⟩
    obtain rfl : e = .returned (.int .i64 (q : Int)) := by rw [he, HQ.out]
    have HB1 := Lib.hid (HB0.out.trans (hb1.mono HB0.out.size))
    have HK1 := Lib.hid (HK0.out.below hb1 HK0.out.lt)
    clear hb1 he
    go_wp2_with fail
    refine (awake15_any _ (HFL.out.below HB1.out (Nat.le_refl _))).mono ?_
    rintro e wz ⟨rfl, hbz⟩
    have HBZ := Lib.hid (HB1.out.trans (hbz.mono HB1.out.size))
    clear hbz
    go_wp2_with fail
    go_ret
    exact ⟨rfl, HBZ.out⟩

end Go.Proofs.YtgeglhgkibcpfaaDoor
