/- The walks of the statements NamesMake, NamesFind. -/
import Derived.Test.YtgeglhgkibcpfaaDoorAwake15
import Derived.Test.YtgeglhgkibcpfaaDoorNamE
namespace Go.Proofs.YtgeglhgkibcpfaaDoor
open Go.RowKit
set_option linter.unusedVariables false

theorem makeF_len (gd : List UInt8 → Bool) : ∀ (l : List En) (t : List Nm), (makeF gd t l).1.length ≤ t.length + l.length := by
  intro l
  induction l with
  | nil => intro t; exact Nat.le_refl _
  | cons e r ih =>
    intro t
    rw [makeF_cons]
    split
    · have := ih (putN t ⟨e.name, e.kind, e.num⟩)
      rw [putN_len] at this
      rw [List.length_cons]
      omega
    · exact Nat.zero_le _
theorem makeN_len (gd : List UInt8 → Bool) (d : Dl) : (makeN gd d).1.length ≤ 4 + cntD d := by
  have := makeF_len gd (allE d) nms0
  rw [allE_len] at this
  exact this

theorem dcl7_size : (Tryd.prog.info? 24).map (·.size) = some 7 := by kernel_rfl

set_option maxRecDepth 100000 in
set_option maxHeartbeats 25600000 in
theorem nmake_walk (X : Dcl) (w : World) (d : Dl) (hfl : Fl w) (h : X.Rd w w.heap.size d) (hbd : X.n0 ≤ 140737488355328 ∧ X.n1 ≤ 140737488355328 ∧ X.n2 ≤ 140737488355328 ∧ X.n3 ≤ 140737488355328 ∧ X.n4 ≤ 140737488355328 ∧ X.n5 ≤ 140737488355328 ∧ X.n6 ≤ 140737488355328) (hl : ∀ e ∈ allE d, (e.name.length : Int) ≤ 9223372036854775807) :
    Calls Tryd.prog 3 #[dclV X] w fun e w' => e = .returned (.bool true) ∧ Below w.heap.size w w' := by
  obtain ⟨A0, n0, c0, A1, n1, c1, A2, n2, c2, A3, n3, c3, A4, n4, c4, A5, n5, c5, A6, n6, c6⟩ := X
  have hcnt := h.cnt
  simp only at hcnt hbd
  have H := Lib.hid h
  have HL := Lib.hid hl
  have HFL := Lib.hid hfl
  clear hfl
  have HBD : Hid (n0 ≤ 140737488355328 ∧ n1 ≤ 140737488355328 ∧ n2 ≤ 140737488355328 ∧ n3 ≤ 140737488355328 ∧ n4 ≤ 140737488355328 ∧ n5 ≤ 140737488355328 ∧ n6 ≤ 140737488355328) := Lib.hid hbd
  obtain ⟨q, hq⟩ : ∃ q, q = n0 + n1 + n2 + n3 + n4 + n5 + n6 := ⟨_, rfl⟩
  have HQ := Lib.hid hq
  have HC : Hid (cntD d = q) := Lib.hid (by rw [hcnt, hq])
  clear h hl hcnt hbd hq
  show Calls Tryd.prog _ #[.agg #[.slice A0 n0 c0, .slice A1 n1 c1, .slice A2 n2 c2, .slice A3 n3 c3, .slice A4 n4 c4, .slice A5 n5 c5, .slice A6 n6 c6]] w _
  obtain ⟨W, hW⟩ : ∃ W, W = w.alloc (.cells #[.slice A0 n0 c0, .slice A1 n1 c1, .slice A2 n2 c2, .slice A3 n3 c3, .slice A4 n4 c4, .slice A5 n5 c5, .slice A6 n6 c6] 24) := ⟨_, rfl⟩
  have HB0 : Hid (Below w.heap.size w W) := Lib.hid (by rw [hW]; exact (Below.refl _ _).alloc (Nat.le_refl _) _)
  have HK0 : Hid (Blk W w.heap.size 24 #[.slice A0 n0 c0, .slice A1 n1 c1, .slice A2 n2 c2, .slice A3 n3 c3, .slice A4 n4 c4, .slice A5 n5 c5, .slice A6 n6 c6]) := Lib.hid (by rw [hW]; exact Blk.new _ _ _)
  by_cases hs : q ≤ 400
  · obtain ⟨⟨ts, fa, fb, fk, fs⟩, hR⟩ : ∃ R, R = makeN gdN d := ⟨_, rfl⟩
    have HR := Lib.hid hR
    clear hR
    go_enter Tryd.func3, Tryd.ntmps3
    go_wp2_with fail
    rw [← hW]
    clear hW
    go_wp2_with (refine wpList_load_row rfl 24 _ rfl w.heap.size rfl 24 #[.slice A0 n0 c0, .slice A1 n1 c1, .slice A2 n2 c2, .slice A3 n3 c3, .slice A4 n4 c4, .slice A5 n5 c5, .slice A6 n6 c6] (0, 0) _ HK0.out Tryd.underlying24 rfl dcl7_size ?_)
    refine (count_any ⟨A0, n0, c0, A1, n1, c1, A2, n2, c2, A3, n3, c3, A4, n4, c4, A5, n5, c5, A6, n6, c6⟩ W HBD.out).mono ?_
    rintro e w1 ⟨he, hb1⟩
    obtain rfl : e = .returned (.int .i64 (q : Int)) := by rw [he, HQ.out]
    have HB1 := Lib.hid (HB0.out.trans (hb1.mono HB0.out.size))
    have HK1 := Lib.hid (HK0.out.below hb1 HK0.out.lt)
    clear hb1 he
    go_wp2_with (refine wpList_load_row rfl 24 _ rfl w.heap.size rfl 24 #[.slice A0 n0 c0, .slice A1 n1 c1, .slice A2 n2 c2, .slice A3 n3 c3, .slice A4 n4 c4, .slice A5 n5 c5, .slice A6 n6 c6] (0, 0) _ HK1.out Tryd.underlying24 rfl dcl7_size ?_)
    refine (source_any ⟨A0, n0, c0, A1, n1, c1, A2, n2, c2, A3, n3, c3, A4, n4, c4, A5, n5, c5, A6, n6, c6⟩ w1 d ((H.out.below HB1.out).more HB1.out.size) (by rw [HC.out]; omega)).mono ?_
    rintro e w2 ⟨Y, rfl, hY, hb2⟩
    have HB2 := Lib.hid (HB1.out.trans (hb2.mono HB1.out.size))
    have HK2 := Lib.hid (HK1.out.below hb2 HK1.out.lt)
    clear hb2
    go_wp2_with fail
    refine (pMake_any Y w2 d (Fl.go HFL HB2) hY (by rw [HC.out]; omega) HL.out).mono ?_
    clear hY
    rintro e w3 ⟨At, nt, ct, he, ho, hb3⟩
    rw [← HR.out] at he ho
    have ho : w3.ownsRow w2.heap.size 45 3 (.slice At nt ct) nt (nmv ts) := ho
    obtain rfl : e = .returned (.tuple #[.slice At nt ct, .agg #[.int .i64 fa, .int .i64 fb, .int .i64 fk, .string (bs fs)]]) := he
    obtain ⟨V, hV⟩ : ∃ V, V = w3.alloc (.cells #[.int .i64 fa, .int .i64 fb, .int .i64 fk, .string (bs fs)] 30) := ⟨_, rfl⟩
    have HB3 := Lib.hid (HB2.out.trans (hb3.mono HB2.out.size))
    have HK3 := Lib.hid (HK2.out.below hb3 HK2.out.lt)
    have HBV : Hid (Below w.heap.size w V) := Lib.hid (by rw [hV]; exact HB3.out.alloc HB3.out.size _)
    have HKV : Hid (Blk V w.heap.size 24 #[.slice A0 n0 c0, .slice A1 n1 c1, .slice A2 n2 c2, .slice A3 n3 c3, .slice A4 n4 c4, .slice A5 n5 c5, .slice A6 n6 c6]) := Lib.hid (by rw [hV]; exact HK3.out.alloc _)
    have HFV : Hid (Blk V w3.heap.size 30 #[.int .i64 fa, .int .i64 fb, .int .i64 fk, .string (bs fs)]) := Lib.hid (by rw [hV]; exact Blk.new _ _ _)
    have HOV := Lib.hid (own_below ho (show Below w3.heap.size w3 V by rw [hV]; exact (Below.refl _ _).alloc (Nat.le_refl _) _))
    clear ho hb3
    go_wp2_with (refine wpList_load_row rfl 24 _ rfl w.heap.size rfl 24 #[.slice A0 n0 c0, .slice A1 n1 c1, .slice A2 n2 c2, .slice A3 n3 c3, .slice A4 n4 c4, .slice A5 n5 c5, .slice A6 n6 c6] (0, 0) _ (HK3.out.alloc _) Tryd.underlying24 rfl dcl7_size ?_)
    rw [← hV]
    clear hV
    refine (source_any ⟨A0, n0, c0, A1, n1, c1, A2, n2, c2, A3, n3, c3, A4, n4, c4, A5, n5, c5, A6, n6, c6⟩ V d ((H.out.below HBV.out).more HBV.out.size) (by rw [HC.out]; omega)).mono ?_
    rintro e w4 ⟨Y2, rfl, hY2, hb4⟩
    have HB4 := Lib.hid (HBV.out.trans (hb4.mono HBV.out.size))
    have HF4 := Lib.hid (HFV.out.below hb4 HFV.out.lt)
    have HO4 := Lib.hid (own_below HOV.out hb4)
    clear hb4
    go_wp2_with fail
    refine (r15Make_any Y2 w4 d hY2 (by rw [HC.out]; omega) HL.out).mono ?_
    clear hY2
    rintro e w5 ⟨Au, nu, cu, he, ho, hb5⟩
    rw [← HR.out] at he ho
    have ho : w5.ownsRow w4.heap.size 45 3 (.slice Au nu cu) nu (nmv ts) := ho
    obtain rfl : e = .returned (.tuple #[.slice Au nu cu, .agg #[.int .i64 fa, .int .i64 fb, .int .i64 fk, .string (bs fs)]]) := he
    obtain ⟨U, hU⟩ : ∃ U, U = w5.alloc (.cells #[.int .i64 fa, .int .i64 fb, .int .i64 fk, .string (bs fs)] 30) := ⟨_, rfl⟩
    have HB5 := Lib.hid (HB4.out.trans (hb5.mono HB4.out.size))
    have HBU : Hid (Below w.heap.size w U) := Lib.hid (by rw [hU]; exact HB5.out.alloc HB5.out.size _)
    have HFU : Hid (Blk U w3.heap.size 30 #[.int .i64 fa, .int .i64 fb, .int .i64 fk, .string (bs fs)]) := Lib.hid (by rw [hU]; exact (HF4.out.below hb5 HF4.out.lt).alloc _)
    have HGU : Hid (Blk U w5.heap.size 30 #[.int .i64 fa, .int .i64 fb, .int .i64 fk, .string (bs fs)]) := Lib.hid (by rw [hU]; exact Blk.new _ _ _)
    have HOU := Lib.hid (own_below (own_below HO4.out hb5) (show Below w5.heap.size w5 U by rw [hU]; exact (Below.refl _ _).alloc (Nat.le_refl _) _))
    have HPU := Lib.hid (own_below ho (show Below w5.heap.size w5 U by rw [hU]; exact (Below.refl _ _).alloc (Nat.le_refl _) _))
    have hlen := makeN_len gdN d
    rw [← HR.out, HC.out] at hlen
    have hnt : nt ≤ 404 := by rw [← ownN_len HOU.out]; exact Nat.le_trans hlen (by omega)
    have hnu : nu ≤ 404 := by rw [← ownN_len HPU.out]; exact Nat.le_trans hlen (by omega)
    clear ho hb5 hlen
    go_wp2_with fail
    rw [← hU]
    clear hU
    have hra : RdN U U.heap.size At nt ts := RdN.of_own HOU.out
    have hrb : RdN U U.heap.size Au nu ts := RdN.of_own HPU.out
    have hn1 : (nt : Int) ≤ 100000 := by omega
    have hn2 : (nu : Int) ≤ 100000 := by omega
    have hsn := sameNames_any U At Au nt ct nu cu ts ts hra hrb hn1 hn2
    refine hsn.mono ?_
    clear hsn hra hrb hn1 hn2
    rintro e w6 ⟨he, hb6⟩
    obtain rfl : e = .returned (.bool true) := he.trans (by rw [decide_eq_true rfl])
    clear he
    have HB6 := Lib.hid (HBU.out.trans (hb6.mono HBU.out.size))
    have HF6 := Lib.hid (HFU.out.below hb6 HFU.out.lt)
    have HG6 := Lib.hid (HGU.out.below hb6 HGU.out.lt)
    clear hb6
    have p0 : w6.cell? ⟨w3.heap.size, 0, none⟩ = some (.int .i64 fa) := HF6.out.cell 0
    have q0 : w6.cell? ⟨w5.heap.size, 0, none⟩ = some (.int .i64 fa) := HG6.out.cell 0
    have p1 : w6.cell? ⟨w3.heap.size, 1, none⟩ = some (.int .i64 fb) := HF6.out.cell 1
    have q1 : w6.cell? ⟨w5.heap.size, 1, none⟩ = some (.int .i64 fb) := HG6.out.cell 1
    have p2 : w6.cell? ⟨w3.heap.size, 2, none⟩ = some (.int .i64 fk) := HF6.out.cell 2
    have q2 : w6.cell? ⟨w5.heap.size, 2, none⟩ = some (.int .i64 fk) := HG6.out.cell 2
    have p3 : w6.cell? ⟨w3.heap.size, 3, none⟩ = some (.string (bs fs)) := HF6.out.cell 3
    have q3 : w6.cell? ⟨w5.heap.size, 3, none⟩ = some (.string (bs fs)) := HG6.out.cell 3
    have r0 : ∀ (x y : Operand) (W : World), (eqGuard .eql 30 x y (.agg #[.int .i64 fa, .int .i64 fb, .int .i64 fk, .string (bs fs)]) (.agg #[.int .i64 fa, .int .i64 fb, .int .i64 fk, .string (bs fs)])).run Tryd.prog W = .ok () W := fun x y W => guard_fau .eql x y (fa, fb, fk, fs) (fa, fb, fk, fs) W
    have r1 : ∀ W : World, (binOp .eql 30 (.agg #[.int .i64 fa, .int .i64 fb, .int .i64 fk, .string (bs fs)]) (.agg #[.int .i64 fa, .int .i64 fb, .int .i64 fk, .string (bs fs)])).run Tryd.prog W = .ok (.bool true) W := fun W => (run_eql_fau (fa, fb, fk, fs) (fa, fb, fk, fs) W).trans (by simp)
    go_wp2_with fail
    refine (awake15_any _ (HFL.out.below HB6.out (Nat.le_refl _))).mono ?_
    rintro e wz ⟨rfl, hbz⟩
    have HBZ := Lib.hid (HB6.out.trans (hbz.mono HB6.out.size))
    clear hbz
    go_wp2_with fail
    go_ret
    exact ⟨rfl, HBZ.out⟩
  · go_enter Tryd.func3, Tryd.ntmps3
    go_wp2_with fail
    rw [← hW]
    clear hW
    go_wp2_with (refine wpList_load_row rfl 24 _ rfl w.heap.size rfl 24 #[.slice A0 n0 c0, .slice A1 n1 c1, .slice A2 n2 c2, .slice A3 n3 c3, .slice A4 n4 c4, .slice A5 n5 c5, .slice A6 n6 c6] (0, 0) _ HK0.out Tryd.underlying24 rfl dcl7_size ?_)
    refine (count_any ⟨A0, n0, c0, A1, n1, c1, A2, n2, c2, A3, n3, c3, A4, n4, c4, A5, n5, c5, A6, n6, c6⟩ W HBD.out).mono ?_
    rintro e w1 ⟨he, hb1⟩
    obtain rfl : e = .returned (.int .i64 (q : Int)) := by rw [he, HQ.out]
    have HB1 := Lib.hid (HB0.out.trans (hb1.mono HB0.out.size))
    have HK1 := Lib.hid (HK0.out.below hb1 HK0.out.lt)
    clear hb1 he
    go_wp2_with fail
    refine (awake15_any _ (HFL.out.below HB1.out (Nat.le_refl _))).mono ?_
    rintro e wz ⟨rfl, hbz⟩
    have HBZ := Lib.hid (HB1.out.trans (hbz.mono HB1.out.size))
    clear hbz
    go_wp2_with fail
    go_ret
    exact ⟨rfl, HBZ.out⟩

set_option maxRecDepth 100000 in
set_option maxHeartbeats 25600000 in
theorem nfind_walk (A : Option Addr) (n c : Nat) (ts : List Nm) (s : ByteArray) (k m : Int) (w : World) (hfl : Fl w) (h : RdN w w.heap.size A n ts) (hn : (n : Int) ≤ 9223372036854775807) :
    Calls Tryd.prog 4 #[.slice A n c, .string s, .int .i64 k, .int .i64 m] w fun e w' => e = .returned (.bool true) ∧ Below w.heap.size w w' := by
  have H := Lib.hid h
  have HFL := Lib.hid hfl
  clear h hfl
  by_cases hs : n ≤ 300
  · cases hr : riseB ts with
    | false =>
      have HRB := Lib.hid hr
      go_enter Tryd.func4, Tryd.ntmps4
      go_wp2_with fail
      refine (r15Rises_any w A n c ts H.out (by omega)).mono ?_
      rintro e w1 ⟨he, hb1⟩
      obtain rfl : e = .returned (.bool false) := he.trans (by rw [HRB.out])
      have HB1 := Lib.hid hb1
      clear hb1 he hr
      go_wp2_with fail
      refine (awake15_any _ (HFL.out.below HB1.out (Nat.le_refl _))).mono ?_
      rintro e wz ⟨rfl, hbz⟩
      have HBZ := Lib.hid (HB1.out.trans (hbz.mono HB1.out.size))
      clear hbz
      go_wp2_with fail
      go_ret
      exact ⟨rfl, HBZ.out⟩
    | true =>
      have HRB := Lib.hid hr
      obtain ⟨x, hx⟩ : ∃ x, x = (findI ts s.data.toList).getD noNm := ⟨_, rfl⟩
      obtain ⟨b, hb⟩ : ∃ b, b = (findI ts s.data.toList).isSome := ⟨_, rfl⟩
      obtain ⟨⟨o1, o2⟩, ho⟩ : ∃ o, o = ofI ts k s.data.toList := ⟨_, rfl⟩
      obtain ⟨tx, htx⟩ : ∃ o, o = textI ts k m := ⟨_, rfl⟩
      have HX := Lib.hid hx
      have HBB := Lib.hid hb
      have HO := Lib.hid ho
      have HT := Lib.hid htx
      clear hx hb ho htx hr
      go_enter Tryd.func4, Tryd.ntmps4
      go_wp2_with fail
      refine (r15Rises_any w A n c ts H.out (by omega)).mono ?_
      rintro e w1 ⟨he, hb1⟩
      obtain rfl : e = .returned (.bool true) := he.trans (by rw [HRB.out])
      have HB1 := Lib.hid hb1
      clear hb1 he
      go_wp2_with fail
      refine (pFind_any w1 A n c ts s ((H.out.below HB1.out).more HB1.out.size) (by omega) HRB.out).mono ?_
      rintro e w2 ⟨he, hb2⟩
      obtain rfl : e = .returned (.tuple #[.agg #[.string (bs x.name), .int .i64 x.kind, .int .i64 x.num], .bool b]) := he.trans (by rw [← HX.out, ← HBB.out]; rfl)
      obtain ⟨V, hV⟩ : ∃ V, V = w2.alloc (.cells #[.string (bs x.name), .int .i64 x.kind, .int .i64 x.num] 45) := ⟨_, rfl⟩
      have HB2 := Lib.hid (HB1.out.trans (hb2.mono HB1.out.size))
      have HBV : Hid (Below w.heap.size w V) := Lib.hid (by rw [hV]; exact HB2.out.alloc HB2.out.size _)
      have HFV : Hid (Blk V w2.heap.size 45 #[.string (bs x.name), .int .i64 x.kind, .int .i64 x.num]) := Lib.hid (by rw [hV]; exact Blk.new _ _ _)
      clear hb2 he
      go_wp2_with fail
      rw [← hV]
      clear hV
      refine (r15Find_any V A n c ts s ((H.out.below HBV.out).more HBV.out.size) (by omega)).mono ?_
      rintro e w3 ⟨he, hb3⟩
      obtain rfl : e = .returned (.tuple #[.agg #[.string (bs x.name), .int .i64 x.kind, .int .i64 x.num], .bool b]) := he.trans (by rw [← HX.out, ← HBB.out]; rfl)
      obtain ⟨U, hU⟩ : ∃ U, U = w3.alloc (.cells #[.string (bs x.name), .int .i64 x.kind, .int .i64 x.num] 45) := ⟨_, rfl⟩
      have HB3 := Lib.hid (HBV.out.trans (hb3.mono HBV.out.size))
      have HBU : Hid (Below w.heap.size w U) := Lib.hid (by rw [hU]; exact HB3.out.alloc HB3.out.size _)
      have HFU : Hid (Blk U w2.heap.size 45 #[.string (bs x.name), .int .i64 x.kind, .int .i64 x.num]) := Lib.hid (by rw [hU]; exact (HFV.out.below hb3 HFV.out.lt).alloc _)
      have HGU : Hid (Blk U w3.heap.size 45 #[.string (bs x.name), .int .i64 x.kind, .int .i64 x.num]) := Lib.hid (by rw [hU]; exact Blk.new _ _ _)
      clear hb3 he
      go_wp2_with fail
      rw [← hU]
      clear hU
      refine (pOf_any U A n c ts k s ((H.out.below HBU.out).more HBU.out.size) (by omega) HRB.out).mono ?_
      rintro e w4 ⟨he, hb4⟩
      rw [← HO.out] at he
      obtain rfl : e = .returned (.tuple #[.int .i64 o1, .int .i64 o2]) := he
      have HB4 := Lib.hid (HBU.out.trans (hb4.mono HBU.out.size))
      have HF4 := Lib.hid (HFU.out.below hb4 HFU.out.lt)
      have HG4 := Lib.hid (HGU.out.below hb4 HGU.out.lt)
      clear hb4
      go_wp2_with fail
      refine (r15Of_any w4 A n c ts k s ((H.out.below HB4.out).more HB4.out.size) (by omega)).mono ?_
      rintro e w5 ⟨he, hb5⟩
      rw [← HO.out] at he
      obtain rfl : e = .returned (.tuple #[.int .i64 o1, .int .i64 o2]) := he
      have HB5 := Lib.hid (HB4.out.trans (hb5.mono HB4.out.size))
      have HF5 := Lib.hid (HF4.out.below hb5 HF4.out.lt)
      have HG5 := Lib.hid (HG4.out.below hb5 HG4.out.lt)
      clear hb5
      have p0 : w5.cell? ⟨w2.heap.size, 0, none⟩ = some (.string (bs x.name)) := HF5.out.cell 0
      have q0 : w5.cell? ⟨w3.heap.size, 0, none⟩ = some (.string (bs x.name)) := HG5.out.cell 0
      have p1 : w5.cell? ⟨w2.heap.size, 1, none⟩ = some (.int .i64 x.kind) := HF5.out.cell 1
      have q1 : w5.cell? ⟨w3.heap.size, 1, none⟩ = some (.int .i64 x.kind) := HG5.out.cell 1
      have p2 : w5.cell? ⟨w2.heap.size, 2, none⟩ = some (.int .i64 x.num) := HF5.out.cell 2
      have q2 : w5.cell? ⟨w3.heap.size, 2, none⟩ = some (.int .i64 x.num) := HG5.out.cell 2
      have r0 : ∀ (x' y : Operand) (W : World), (eqGuard .eql 45 x' y (.agg #[.string (bs x.name), .int .i64 x.kind, .int .i64 x.num]) (.agg #[.string (bs x.name), .int .i64 x.kind, .int .i64 x.num])).run Tryd.prog W = .ok () W := fun x' y W => guard_nm .eql x' y x x W
      have r1 : ∀ W : World, (binOp .eql 45 (.agg #[.string (bs x.name), .int .i64 x.kind, .int .i64 x.num]) (.agg #[.string (bs x.name), .int .i64 x.kind, .int .i64 x.num])).run Tryd.prog W = .ok (.bool true) W := fun W => (run_eql_nm x x W).trans (by simp)
      have t1 : (b == b) = true := by simp
      have t2 : (o1 == o1) = true := by simp
      have t3 : (o2 == o2) = true := by simp
      have t4 : ((bs tx).toList == (bs tx).toList) = true := by simp
      go_wp2_with fail
      refine (pText_any _ A n c ts k m ((H.out.below HB5.out).more HB5.out.size) (by omega)).mono ?_
      rintro e w6 ⟨he, hb6⟩
      rw [← HT.out] at he
      subst he
      have HB6 := Lib.hid (HB5.out.trans (hb6.mono HB5.out.size))
      clear hb6
      go_wp2_with fail
      refine (r15Text_any _ A n c ts k m ((H.out.below HB6.out).more HB6.out.size) (by omega)).mono ?_
      rintro e w7 ⟨he, hb7⟩
      rw [← HT.out] at he
      subst he
      have HB7 := Lib.hid (HB6.out.trans (hb7.mono HB6.out.size))
      clear hb7
      go_wp2_with fail
      refine (awake15_any _ (HFL.out.below HB7.out (Nat.le_refl _))).mono ?_
      rintro e wz ⟨rfl, hbz⟩
      have HBZ := Lib.hid (HB7.out.trans (hbz.mono HB7.out.size))
      clear hbz
      go_wp2_with fail
      go_ret
      exact ⟨rfl, HBZ.out⟩
  · go_enter Tryd.func4, Tryd.ntmps4
    go_wp2_with fail
    refine (awake15_any _ HFL.out).mono ?_
    rintro e wz ⟨rfl, hbz⟩
    go_wp2_with fail
    go_ret
    exact ⟨rfl, hbz⟩

end Go.Proofs.YtgeglhgkibcpfaaDoor
