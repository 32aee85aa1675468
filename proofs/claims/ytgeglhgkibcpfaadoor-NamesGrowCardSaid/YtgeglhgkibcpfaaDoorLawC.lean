/- The walk of the statement NamesGrow. -/
import Derived.Test.YtgeglhgkibcpfaaDoorAwake15
import Derived.Test.YtgeglhgkibcpfaaDoorNamE
import Derived.Test.YtgeglhgkibcpfaaDoorLawA
namespace Go.Proofs.YtgeglhgkibcpfaaDoor
open Go.RowKit
set_option linter.unusedVariables false

theorem findI_grow {gd : List UInt8 → Bool} {d : Dl} {s : List UInt8} (h : (makeN gd d).2.1 = 0) (h2 : (makeN gd (growD d s)).2.1 = 0) : findI (makeN gd (growD d s)).1 s = some ⟨s, 7, d.da.length⟩ ∧ (makeN gd (growD d s)).1.length = (makeN gd d).1.length + 1 ∧
    ∀ x ∈ (makeN gd d).1, findI (makeN gd (growD d s)).1 x.name = some x := by
  obtain ⟨_, h3, hr⟩ := makeN_grow.2 h h2
  refine ⟨?_, by rw [h3, putN_len], fun x hx => ?_⟩
  · exact hr.find (x := ⟨s, 7, d.da.length⟩) (by rw [h3]; exact putN_mem.2 (.inl rfl))
  · exact hr.find (by rw [h3]; exact putN_mem.2 (.inr hx))
theorem rise_grow {gd : List UInt8 → Bool} {d : Dl} {s : List UInt8} (h : (makeN gd d).2.1 = 0) (h2 : (makeN gd (growD d s)).2.1 = 0) : riseB (makeN gd (growD d s)).1 = true := rise_of (makeN_grow.2 h h2).2.2
theorem sc_one {ls : List (List UInt8)} : ∀ u ∈ sc ls, u.oneCell' = true := by
  intro u hu
  unfold sc at hu
  obtain ⟨z, _, rfl⟩ := List.mem_map.1 hu
  rfl
theorem RdV.of_rdS {w : World} {B : Nat} {A : Option Addr} {n : Nat} {ls : List (List UInt8)} (h : RdS w B A n ls) : RdV 1 w B A n (sc ls) := by
  have hl := h.1
  refine ⟨by rw [sc_length]; omega, fun hn => ?_⟩
  obtain ⟨ad, e, hb, hc⟩ := h.2 hn
  refine ⟨ad, e, hb, fun j u hu => ?_⟩
  have hj : j < ls.length := by
    have := (List.getElem?_eq_some_iff.1 hu).1
    rw [sc_length] at this
    exact this
  rw [hc j hj, ← sc_at hj, hu]
theorem grow_len {d : Dl} {s : ByteArray} (h : ∀ e ∈ allE d, (e.name.length : Int) ≤ 9223372036854775807) (hs : (s.size : Int) ≤ 9223372036854775807) : ∀ e ∈ allE (growD d s.data.toList), (e.name.length : Int) ≤ 9223372036854775807 := by
  intro e he
  rw [allE_grow] at he
  rcases List.mem_append.mp he with he | he
  · exact h e he
  · rw [List.mem_singleton] at he
    subst he
    show ((s.data.toList.length : Nat) : Int) ≤ _
    rw [Array.length_toList]
    exact hs
theorem cnt_grow (d : Dl) (s : List UInt8) : cntD (growD d s) = cntD d + 1 := by
  unfold cntD growD
  simp only [List.length_append, List.length_cons, List.length_nil]
  omega

set_option maxRecDepth 100000 in
set_option maxHeartbeats 25600000 in
theorem ngrow_walk (X : Dcl) (w : World) (d : Dl) (s : ByteArray) (hfl : Fl w) (h : X.Rd w w.heap.size d) (hbd : X.n0 ≤ 140737488355328 ∧ X.n1 ≤ 140737488355328 ∧ X.n2 ≤ 140737488355328 ∧ X.n3 ≤ 140737488355328 ∧ X.n4 ≤ 140737488355328 ∧ X.n5 ≤ 140737488355328 ∧ X.n6 ≤ 140737488355328) (hl : ∀ e ∈ allE d, (e.name.length : Int) ≤ 9223372036854775807) (hss : (s.size : Int) ≤ 9223372036854775807) :
    Calls Tryd.prog 7 #[dclV X, .string s] w fun e w' => e = .returned (.bool true) ∧ Below w.heap.size w w' := by
  obtain ⟨A0, n0, c0, A1, n1, c1, A2, n2, c2, A3, n3, c3, A4, n4, c4, A5, n5, c5, A6, n6, c6⟩ := X
  have hcnt := h.cnt
  simp only at hcnt hbd
  have H := Lib.hid h
  have HL := Lib.hid hl
  have HFL := Lib.hid hfl
  clear hfl
  have HBD : Hid (n0 ≤ 140737488355328 ∧ n1 ≤ 140737488355328 ∧ n2 ≤ 140737488355328 ∧ n3 ≤ 140737488355328 ∧ n4 ≤ 140737488355328 ∧ n5 ≤ 140737488355328 ∧ n6 ≤ 140737488355328) := Lib.hid hbd
  obtain ⟨q, hq⟩ : ∃ q, q = n0 + n1 + n2 + n3 + n4 + n5 + n6 := ⟨_, rfl⟩
  have HQ := Lib.hid hq
  have HC : Hid (cntD d = q) := Lib.hid (by rw [hcnt, hq])
  clear h hl hcnt hbd hq
  show Calls Tryd.prog _ #[.agg #[.slice A0 n0 c0, .slice A1 n1 c1, .slice A2 n2 c2, .slice A3 n3 c3, .slice A4 n4 c4, .slice A5 n5 c5, .slice A6 n6 c6], .string s] w _
  obtain ⟨W, hW⟩ : ∃ W, W = w.alloc (.cells #[.slice A0 n0 c0, .slice A1 n1 c1, .slice A2 n2 c2, .slice A3 n3 c3, .slice A4 n4 c4, .slice A5 n5 c5, .slice A6 n6 c6] 24) := ⟨_, rfl⟩
  have HB0 : Hid (Below w.heap.size w W) := Lib.hid (by rw [hW]; exact (Below.refl _ _).alloc (Nat.le_refl _) _)
  have HK0 : Hid (Blk W w.heap.size 24 #[.slice A0 n0 c0, .slice A1 n1 c1, .slice A2 n2 c2, .slice A3 n3 c3, .slice A4 n4 c4, .slice A5 n5 c5, .slice A6 n6 c6]) := Lib.hid (by rw [hW]; exact Blk.new _ _ _)
  by_cases hs : q ≤ 300
  · by_cases hss3 : s.size ≤ 30
    · obtain ⟨⟨ts, fa, fb, fk, fs⟩, hR⟩ : ∃ R, R = makeN gdN d := ⟨_, rfl⟩
      obtain ⟨⟨us, ga, gb, gk, gs⟩, hR2⟩ : ∃ R, R = makeN gdN (growD d s.data.toList) := ⟨_, rfl⟩
      have HR := Lib.hid hR
      have HR2 := Lib.hid hR2
      clear hR hR2
      obtain ⟨i0, hi, hz0, hsz, hby⟩ := inf_parts Tryd.inf_str
      have HI := Lib.hid hi
      have HZI := Lib.hid hz0
      have HSZ := Lib.hid hsz
      have HBY := Lib.hid hby
      clear hi hz0 hsz hby
      go_enter Tryd.func7, Tryd.ntmps7
      go_wp2_with fail
      rw [← hW]
      clear hW
      go_wp2_with (refine wpList_load_row rfl 24 _ rfl w.heap.size rfl 24 #[.slice A0 n0 c0, .slice A1 n1 c1, .slice A2 n2 c2, .slice A3 n3 c3, .slice A4 n4 c4, .slice A5 n5 c5, .slice A6 n6 c6] (0, 0) _ HK0.out Tryd.underlying24 rfl dcl7_size ?_)
      refine (count_any ⟨A0, n0, c0, A1, n1, c1, A2, n2, c2, A3, n3, c3, A4, n4, c4, A5, n5, c5, A6, n6, c6⟩ W HBD.out).mono ?_
      rintro e w1 ⟨he, hb1⟩
      obtain rfl : e = .returned (.int .i64 (q : Int)) := by rw [he, HQ.out]
      have HB1 := Lib.hid (HB0.out.trans (hb1.mono HB0.out.size))
      have HK1 := Lib.hid (HK0.out.below hb1 HK0.out.lt)
      clear hb1 he
      go_wp2_with (refine wpList_load_row rfl 24 _ rfl w.heap.size rfl 24 #[.slice A0 n0 c0, .slice A1 n1 c1, .slice A2 n2 c2, .slice A3 n3 c3, .slice A4 n4 c4, .slice A5 n5 c5, .slice A6 n6 c6] (0, 0) _ HK1.out Tryd.underlying24 rfl dcl7_size ?_)
      refine (source_any ⟨A0, n0, c0, A1, n1, c1, A2, n2, c2, A3, n3, c3, A4, n4, c4, A5, n5, c5, A6, n6, c6⟩ w1 d ((H.out.below HB1.out).more HB1.out.size) (by rw [HC.out]; omega)).mono ?_
      rintro e w2 ⟨Y, rfl, hY, hb2⟩
      have HB2 := Lib.hid (HB1.out.trans (hb2.mono HB1.out.size))
      have HK2 := Lib.hid (HK1.out.below hb2 HK1.out.lt)
      clear hb2
      go_wp2_with fail
      refine (pMake_any Y w2 d (Fl.go HFL HB2) hY (by rw [HC.out]; omega) HL.out).mono ?_
      clear hY
      rintro e w3 ⟨At, nt, ct, he, ho, hb3⟩
      rw [← HR.out] at he ho
      have ho : w3.ownsRow w2.heap.size 45 3 (.slice At nt ct) nt (nmv ts) := ho
      obtain rfl : e = .returned (.tuple #[.slice At nt ct, .agg #[.int .i64 fa, .int .i64 fb, .int .i64 fk, .string (bs fs)]]) := he
      obtain ⟨V, hV⟩ : ∃ V, V = w3.alloc (.cells #[.int .i64 fa, .int .i64 fb, .int .i64 fk, .string (bs fs)] 30) := ⟨_, rfl⟩
      have HB3 := Lib.hid (HB2.out.trans (hb3.mono HB2.out.size))
      have HK3 := Lib.hid (HK2.out.below hb3 HK2.out.lt)
      have HBV : Hid (Below w.heap.size w V) := Lib.hid (by rw [hV]; exact HB3.out.alloc HB3.out.size _)
      have HKV : Hid (Blk V w.heap.size 24 #[.slice A0 n0 c0, .slice A1 n1 c1, .slice A2 n2 c2, .slice A3 n3 c3, .slice A4 n4 c4, .slice A5 n5 c5, .slice A6 n6 c6]) := Lib.hid (by rw [hV]; exact HK3.out.alloc _)
      have HFV : Hid (Blk V w3.heap.size 30 #[.int .i64 fa, .int .i64 fb, .int .i64 fk, .string (bs fs)]) := Lib.hid (by rw [hV]; exact Blk.new _ _ _)
      have HOV := Lib.hid (own_below ho (show Below w3.heap.size w3 V by rw [hV]; exact (Below.refl _ _).alloc (Nat.le_refl _) _))
      have HLT : Hid (w.heap.size < w3.heap.size) := Lib.hid HK3.out.lt
      have HWV : Hid (w.heap.size < w2.heap.size) := Lib.hid HK2.out.lt
      have k6 : (w3.alloc (.cells #[.int .i64 fa, .int .i64 fb, .int .i64 fk, .string (bs fs)] 30)).cell? ⟨w.heap.size, 6, none⟩ = some (.slice A6 n6 c6) := (HK3.out.alloc _).cell 6
      have HV1 : Hid (V = w3.alloc (.cells #[.int .i64 fa, .int .i64 fb, .int .i64 fk, .string (bs fs)] 30)) := Lib.hid hV
      have HVS : Hid (w.heap.size < V.heap.size) := Lib.hid HKV.out.lt
      have HDA := Lib.hid ((H.out.below HBV.out).more HBV.out.size)
      have hn6 : n6 ≤ 300 := by have := HQ.out; omega
      clear ho hb3 hV
      have hO0 : V.ownsRow V.heap.size 9 1 (.slice none 0 0) 0 [] := own_nilV _ _ _ _
      have HO0 : Hid ((w3.alloc (.cells #[.int .i64 fa, .int .i64 fb, .int .i64 fk, .string (bs fs)] 30)).ownsRow V.heap.size 9 1 (.slice none 0 0) 0 []) := Lib.hid (by rw [← HV1.out]; exact hO0)
      have HRD : Hid (RdV 1 (w3.alloc (.cells #[.int .i64 fa, .int .i64 fb, .int .i64 fk, .string (bs fs)] 30)) V.heap.size A6 n6 (sc d.da)) := Lib.hid (by rw [← HV1.out]; exact RdV.of_rdS HDA.out.da)
      have HVZ : Hid (V.heap.size = (w3.alloc (.cells #[.int .i64 fa, .int .i64 fb, .int .i64 fk, .string (bs fs)] 30)).heap.size) := Lib.hid (by rw [HV1.out])
      clear hO0
      go_wp2_with (first
        | (at_builtin; refine wpList_appV _ rfl _ _ 22 rfl V.heap.size 9 i0 _ 1 16 Tryd.underlying22 HI.out HZI.out rfl HSZ.out HBY.out (by omega) _ 0 _ rfl HO0.out V.heap.size A6 n6 c6 (sc d.da) rfl HRD.out sc_one (by omega) (by omega) (by rw [HVZ.out]; exact Nat.le_refl _) ?_; intro AX cX w5 hown5 hg5; have HO5 : Hid (w5.ownsRow V.heap.size 9 1 (.slice AX n6 cX) n6 (sc d.da)) := Lib.hid (by simpa using hown5); have HB5 : Hid (Below V.heap.size V w5) := Lib.hid ((Below.refl _ _).grown (show V.grownBy w5 _ by rw [HV1.out]; exact hg5) (Nat.le_refl _) (own_from (own_nilV V V.heap.size 9 1))); clear hown5 hg5)
        | (at_builtin; refine wpList_appV _ rfl _ _ 22 rfl V.heap.size 9 i0 _ 1 16 Tryd.underlying22 HI.out HZI.out rfl HSZ.out HBY.out (by omega) _ n6 _ rfl (HO5.out.alloc _) _ _ 1 _ [.string s] rfl (RdV.one (Blk.new w5 9 (List.toArray [.string s])) rfl) (by simp [Value.oneCell']) (by omega) (by omega) (HB5.out.alloc HB5.out.size _).size ?_; intro A9 c9 w6 hown6 hg6; have HB6 := Lib.hid ((HB5.out.alloc HB5.out.size _).grown hg6 (HB5.out.alloc HB5.out.size _).size (own_from HO5.out)); have HO6 := Lib.hid hown6; have HK6 := Lib.hid (HKV.out.below HB6.out HKV.out.lt); have z1 : w6.cell? ⟨w.heap.size, 6, none⟩ = some (.slice A6 n6 c6) := HK6.out.cell 6; have z2 : w6.frozen? ⟨w.heap.size, 6, none⟩ = false := HK6.out.frozen 6; obtain ⟨Q, hQ⟩ : ∃ Q, Q = w6.setCell ⟨w.heap.size, 6, none⟩ (.slice A9 (n6 + 1) c9) := ⟨_, rfl⟩; have HKE : Hid (Blk (w6.setCell ⟨w.heap.size, 6, none⟩ (.slice A9 (n6 + 1) c9)) w.heap.size 24 #[.slice A0 n0 c0, .slice A1 n1 c1, .slice A2 n2 c2, .slice A3 n3 c3, .slice A4 n4 c4, .slice A5 n5 c5, .slice A9 (n6 + 1) c9]) := Lib.hid (HK6.out.set_ 6 _); clear hown6 hg6)
        | (refine wpList_load_row rfl 24 _ rfl w.heap.size rfl 24 #[.slice A0 n0 c0, .slice A1 n1 c1, .slice A2 n2 c2, .slice A3 n3 c3, .slice A4 n4 c4, .slice A5 n5 c5, .slice A9 (n6 + 1) c9] (0, 0) _ HKE.out Tryd.underlying24 rfl dcl7_size ?_))
      have HBQ : Hid (Below w.heap.size w Q) := Lib.hid (by rw [hQ]; exact (HBV.out.trans (HB6.out.mono HBV.out.size)).setCell (Nat.le_refl _) _)
      have HKQ : Hid (Blk Q w.heap.size 24 #[.slice A0 n0 c0, .slice A1 n1 c1, .slice A2 n2 c2, .slice A3 n3 c3, .slice A4 n4 c4, .slice A5 n5 c5, .slice A9 (n6 + 1) c9]) := Lib.hid (by rw [hQ]; exact HKE.out)
      have HFQ : Hid (Blk Q w3.heap.size 30 #[.int .i64 fa, .int .i64 fb, .int .i64 fk, .string (bs fs)]) := Lib.hid (by rw [hQ]; exact (HFV.out.below HB6.out HFV.out.lt).far (by have := HLT.out; show w3.heap.size ≠ w.heap.size; omega) _)
      have HOQ : Hid (Q.ownsRow w2.heap.size 45 3 (.slice At nt ct) nt (nmv ts)) := Lib.hid (by rw [hQ]; exact own_far (own_below HOV.out HB6.out) (gb_set (gb_below (Below.refl _ _) _) _ _) HWV.out)
      have hown : Q.ownsRow V.heap.size 9 1 (.slice A9 (n6 + 1) c9) (n6 + 1) (sc (d.da ++ [s.data.toList])) := by
        rw [hQ, show sc (d.da ++ [s.data.toList]) = sc d.da ++ [.string s] from by unfold sc; rw [List.map_append, List.map_cons, bs_data]; rfl]
        exact own_far HO6.out (gb_set (gb_below (Below.refl _ _) _) _ _) HVS.out
      have hrd : (Dcl.mk A0 n0 c0 A1 n1 c1 A2 n2 c2 A3 n3 c3 A4 n4 c4 A5 n5 c5 A9 (n6 + 1) c9).Rd Q Q.heap.size (growD d s.data.toList) := by
        have hr := (H.out.below HBQ.out).more HBQ.out.size
        exact ⟨hr.fl, hr.pr, hr.gl, hr.ob, hr.ve, hr.fu, RdS.of_own hown⟩
      have HRQ := Lib.hid hrd
      rw [← hQ]
      clear hQ HKE z1 z2 HK6 HO6 HB6 HO5 HB5 HO0 HRD HV1 HVZ HDA k6 HK3 HB3 HFV HOV HKV hown hrd
      refine (source_any ⟨A0, n0, c0, A1, n1, c1, A2, n2, c2, A3, n3, c3, A4, n4, c4, A5, n5, c5, A9, n6 + 1, c9⟩ Q (growD d s.data.toList) HRQ.out (by rw [cnt_grow, HC.out]; omega)).mono ?_
      rintro e w7 ⟨Y2, rfl, hY2, hb7⟩
      have HB7 := Lib.hid (HBQ.out.trans (hb7.mono HBQ.out.size))
      have HK7 := Lib.hid (HKQ.out.below hb7 HKQ.out.lt)
      have HF7 := Lib.hid (HFQ.out.below hb7 HFQ.out.lt)
      have HO7 := Lib.hid (own_below HOQ.out hb7)
      clear hb7
      go_wp2_with fail
      refine (pMake_any Y2 w7 (growD d s.data.toList) (Fl.go HFL (by assumption)) hY2 (by rw [cnt_grow, HC.out]; omega) (grow_len HL.out hss)).mono ?_
      clear hY2
      rintro e w8 ⟨Au, nu, cu, he, ho, hb8⟩
      rw [← HR2.out] at he ho
      have ho : w8.ownsRow w7.heap.size 45 3 (.slice Au nu cu) nu (nmv us) := ho
      obtain rfl : e = .returned (.tuple #[.slice Au nu cu, .agg #[.int .i64 ga, .int .i64 gb, .int .i64 gk, .string (bs gs)]]) := he
      obtain ⟨U, hU⟩ : ∃ U, U = w8.alloc (.cells #[.int .i64 ga, .int .i64 gb, .int .i64 gk, .string (bs gs)] 30) := ⟨_, rfl⟩
      have HB8 := Lib.hid (HB7.out.trans (hb8.mono HB7.out.size))
      have HBU : Hid (Below w.heap.size w U) := Lib.hid (by rw [hU]; exact HB8.out.alloc HB8.out.size _)
      have HKU : Hid (Blk U w.heap.size 24 #[.slice A0 n0 c0, .slice A1 n1 c1, .slice A2 n2 c2, .slice A3 n3 c3, .slice A4 n4 c4, .slice A5 n5 c5, .slice A9 (n6 + 1) c9]) := Lib.hid (by rw [hU]; exact (HK7.out.below hb8 HK7.out.lt).alloc _)
      have HFU : Hid (Blk U w3.heap.size 30 #[.int .i64 fa, .int .i64 fb, .int .i64 fk, .string (bs fs)]) := Lib.hid (by rw [hU]; exact (HF7.out.below hb8 HF7.out.lt).alloc _)
      have HGU : Hid (Blk U w8.heap.size 30 #[.int .i64 ga, .int .i64 gb, .int .i64 gk, .string (bs gs)]) := Lib.hid (by rw [hU]; exact Blk.new _ _ _)
      have HOU := Lib.hid (own_below (own_below HO7.out hb8) (show Below w8.heap.size w8 U by rw [hU]; exact (Below.refl _ _).alloc (Nat.le_refl _) _))
      have HPU := Lib.hid (own_below ho (show Below w8.heap.size w8 U by rw [hU]; exact (Below.refl _ _).alloc (Nat.le_refl _) _))
      clear ho hb8
      have hz1 : (makeN gdN d).2.1 = fa := by rw [← HR.out]
      have hz2 : (makeN gdN (growD d s.data.toList)).2.1 = ga := by rw [← HR2.out]
      by_cases h0 : fa = 0
      · subst h0
        have hzz := makeF_zero (gd := gdN) (l := allE d) (t := nms0) hz1
        have hzz2 : (makeN gdN d).2 = (0, 0, 0, []) := hzz
        rw [← HR.out] at hzz2
        simp only [Prod.mk.injEq] at hzz2
        obtain ⟨_, rfl, rfl, rfl⟩ := hzz2
        clear hzz
        by_cases h1 : ga = 0
        · subst h1
          have hzz3 : (makeN gdN (growD d s.data.toList)).2 = (0, 0, 0, []) := makeF_zero (gd := gdN) (l := allE (growD d s.data.toList)) (t := nms0) hz2
          rw [← HR2.out] at hzz3
          simp only [Prod.mk.injEq] at hzz3
          obtain ⟨_, rfl, rfl, rfl⟩ := hzz3
          obtain ⟨G1, G2, G3⟩ := findI_grow hz1 hz2
          have G4 := rise_grow hz1 hz2
          rw [← HR2.out] at G1 G2 G3 G4
          rw [← HR.out] at G2 G3
          simp only at G1 G2 G3 G4
          have hlt := makeN_len gdN d
          rw [← HR.out, HC.out] at hlt
          have hlu := ownN_len HPU.out
          have hlv := ownN_len HOU.out
          have hda : d.da.length = n6 := H.out.da.1
          obtain rfl : nu = nt + 1 := by omega
          have hnt : nt ≤ 304 := by rw [← hlv]; exact Nat.le_trans hlt (by omega)
          have GG1 : Hid (findI us s.data.toList = some ⟨s.data.toList, 7, n6⟩) := Lib.hid (by rw [G1, hda])
          have GG3 := Lib.hid G3
          have GG4 : Hid (riseB us = true) := Lib.hid G4
          have HLV := Lib.hid hlv
          clear hz1 hz2 G1 G2 G3 G4 hlt hlu hlv hda
          have p0 : (w8.alloc (.cells #[.int .i64 0, .int .i64 0, .int .i64 0, .string (bs [])] 30)).cell? ⟨w3.heap.size, 0, none⟩ = some (.int .i64 0) := by rw [← hU]; exact HFU.out.cell 0
          have p1 : (w8.alloc (.cells #[.int .i64 0, .int .i64 0, .int .i64 0, .string (bs [])] 30)).cell? ⟨w3.heap.size, 1, none⟩ = some (.int .i64 0) := by rw [← hU]; exact HFU.out.cell 1
          have p2 : (w8.alloc (.cells #[.int .i64 0, .int .i64 0, .int .i64 0, .string (bs [])] 30)).cell? ⟨w3.heap.size, 2, none⟩ = some (.int .i64 0) := by rw [← hU]; exact HFU.out.cell 2
          have p3 : (w8.alloc (.cells #[.int .i64 0, .int .i64 0, .int .i64 0, .string (bs [])] 30)).cell? ⟨w3.heap.size, 3, none⟩ = some (.string ⟨#[]⟩) := by rw [← hU]; exact HFU.out.cell 3
          have q0 : (w8.alloc (.cells #[.int .i64 0, .int .i64 0, .int .i64 0, .string (bs [])] 30)).cell? ⟨w8.heap.size, 0, none⟩ = some (.int .i64 0) := by rw [← hU]; exact HGU.out.cell 0
          have q1 : (w8.alloc (.cells #[.int .i64 0, .int .i64 0, .int .i64 0, .string (bs [])] 30)).cell? ⟨w8.heap.size, 1, none⟩ = some (.int .i64 0) := by rw [← hU]; exact HGU.out.cell 1
          have q2 : (w8.alloc (.cells #[.int .i64 0, .int .i64 0, .int .i64 0, .string (bs [])] 30)).cell? ⟨w8.heap.size, 2, none⟩ = some (.int .i64 0) := by rw [← hU]; exact HGU.out.cell 2
          have q3 : (w8.alloc (.cells #[.int .i64 0, .int .i64 0, .int .i64 0, .string (bs [])] 30)).cell? ⟨w8.heap.size, 3, none⟩ = some (.string ⟨#[]⟩) := by rw [← hU]; exact HGU.out.cell 3
          have e0 : ∀ (x y : Operand) (W : World), (eqGuard .neq 30 x y (.agg #[.int .i64 0, .int .i64 0, .int .i64 0, .string ⟨#[]⟩]) (.agg #[.int .i64 0, .int .i64 0, .int .i64 0, .string ⟨#[]⟩])).run Tryd.prog W = .ok () W := fun x y W => guard_fau .neq x y (0, 0, 0, []) (0, 0, 0, []) W
          have f0 : ∀ W : World, (binOp .neq 30 (.agg #[.int .i64 0, .int .i64 0, .int .i64 0, .string ⟨#[]⟩]) (.agg #[.int .i64 0, .int .i64 0, .int .i64 0, .string ⟨#[]⟩])).run Tryd.prog W = .ok (.bool false) W := fun W => (run_neq_fau (0, 0, 0, []) (0, 0, 0, []) W).trans (by simp)
          go_wp2_with fail
          rw [← hU]
          clear hU p0 p1 p2 p3 q0 q1 q2 q3
          refine (pFind_any U Au (nt + 1) cu us s (RdN.of_own HPU.out) (by omega) GG4.out).mono ?_
          rintro e w9 ⟨he, hb9⟩
          obtain rfl : e = .returned (.tuple #[.agg #[.string s, .int .i64 7, .int .i64 (n6 : Int)], .bool true]) := he.trans (by rw [GG1.out]; show _ = Ending.returned (.tuple #[.agg #[.string s, _, _], _]); rw [← bs_data s]; rfl)
          obtain ⟨T, hT⟩ : ∃ T, T = w9.alloc (.cells #[.string s, .int .i64 7, .int .i64 (n6 : Int)] 45) := ⟨_, rfl⟩
          have HB9 := Lib.hid (HBU.out.trans (hb9.mono HBU.out.size))
          have HBT : Hid (Below w.heap.size w T) := Lib.hid (by rw [hT]; exact HB9.out.alloc HB9.out.size _)
          have HKT : Hid (Blk T w.heap.size 24 #[.slice A0 n0 c0, .slice A1 n1 c1, .slice A2 n2 c2, .slice A3 n3 c3, .slice A4 n4 c4, .slice A5 n5 c5, .slice A9 (n6 + 1) c9]) := Lib.hid (by rw [hT]; exact (HKU.out.below hb9 HKU.out.lt).alloc _)
          have HNT : Hid (Blk T w9.heap.size 45 #[.string s, .int .i64 7, .int .i64 (n6 : Int)]) := Lib.hid (by rw [hT]; exact Blk.new _ _ _)
          have HOT := Lib.hid (own_below (own_below HOU.out hb9) (show Below w9.heap.size w9 T by rw [hT]; exact (Below.refl _ _).alloc (Nat.le_refl _) _))
          have HPT := Lib.hid (own_below (own_below HPU.out hb9) (show Below w9.heap.size w9 T by rw [hT]; exact (Below.refl _ _).alloc (Nat.le_refl _) _))
          have HAT : Hid (RdN T T.heap.size At nt ts) := Lib.hid (RdN.of_own HOT.out)
          have HUT : Hid (RdN T T.heap.size Au (nt + 1) us) := Lib.hid (RdN.of_own HPT.out)
          clear hb9 he HOT HPT HPU HOU HGU HFU HKU
          go_wp2_with fail
          rw [← hT]
          clear hT
          go_loopw [70] (fun vi wr => ∃ j : Nat, j ≤ nt ∧ vi = .int .i64 j ∧ Hid (Below T.heap.size T wr)) (fun vi _ => nt - (intOf vi).toNat)
          case atStart => exact ⟨0, Nat.zero_le _, rfl, Lib.hid (Below.refl _ _)⟩
          case round =>
            obtain ⟨j, hj, rfl, HB⟩ := hrel
            have HBr := Lib.hid (HBT.out.trans (HB.out.mono HBT.out.size))
            by_cases hlt : j < nt
            · obtain ⟨ad, rfl, _⟩ := nm_addr HAT.out (by omega)
              obtain ⟨a0, a1, a2⟩ := nm_cells (HAT.out.below HB.out) hlt
              obtain ⟨x, hx⟩ : ∃ x, x = ts[j]?.getD noNm := ⟨_, rfl⟩
              have hmem : x ∈ ts := by
                have hj2 : j < ts.length := by rw [HLV.out]; exact hlt
                rw [hx, List.getElem?_eq_getElem hj2]
                exact List.getElem_mem hj2
              have HXF := Lib.hid (GG3.out x hmem)
              rw [← hx] at a0 a1 a2
              clear hx hmem
              obtain ⟨R, hR⟩ : ∃ R, R = wr.alloc (.cells #[.string (bs x.name), .int .i64 x.kind, .int .i64 x.num] 45) := ⟨_, rfl⟩
              have HBR : Hid (Below T.heap.size T R) := Lib.hid (by rw [hR]; exact HB.out.alloc HB.out.size _)
              have HXR : Hid (Blk R wr.heap.size 45 #[.string (bs x.name), .int .i64 x.kind, .int .i64 x.num]) := Lib.hid (by rw [hR]; exact Blk.new _ _ _)
              have n0' : (wr.alloc (.cells #[.string (bs x.name), .int .i64 x.kind, .int .i64 x.num] 45)).cell? ⟨wr.heap.size, 0, none⟩ = some (.string (bs x.name)) := (Blk.new wr 45 #[.string (bs x.name), .int .i64 x.kind, .int .i64 x.num]).cell 0
              go_wp2_with fail
              rw [← hR]
              clear hR n0' a0 a1 a2
              refine (pFind_any R Au (nt + 1) cu us (bs x.name) ((HUT.out.below HBR.out).more HBR.out.size) (by omega) GG4.out).mono ?_
              rintro e w10 ⟨he, hb10⟩
              obtain rfl : e = .returned (.tuple #[.agg #[.string (bs x.name), .int .i64 x.kind, .int .i64 x.num], .bool true]) := he.trans (by rw [show (bs x.name).data.toList = x.name from rfl, HXF.out]; rfl)
              have HB10 := Lib.hid (HBR.out.trans (hb10.mono HBR.out.size))
              have HX10 := Lib.hid (HXR.out.below hb10 HXR.out.lt)
              clear hb10 he
              have u_0 : (w10.alloc (.cells #[.string (bs x.name), .int .i64 x.kind, .int .i64 x.num] 45)).cell? ⟨wr.heap.size, 0, none⟩ = some (.string (bs x.name)) := (HX10.out.alloc _).cell 0
              have v_0 : (w10.alloc (.cells #[.string (bs x.name), .int .i64 x.kind, .int .i64 x.num] 45)).cell? ⟨w10.heap.size, 0, none⟩ = some (.string (bs x.name)) := (Blk.new w10 45 #[.string (bs x.name), .int .i64 x.kind, .int .i64 x.num]).cell 0
              have u_1 : (w10.alloc (.cells #[.string (bs x.name), .int .i64 x.kind, .int .i64 x.num] 45)).cell? ⟨wr.heap.size, 1, none⟩ = some (.int .i64 x.kind) := (HX10.out.alloc _).cell 1
              have v_1 : (w10.alloc (.cells #[.string (bs x.name), .int .i64 x.kind, .int .i64 x.num] 45)).cell? ⟨w10.heap.size, 1, none⟩ = some (.int .i64 x.kind) := (Blk.new w10 45 #[.string (bs x.name), .int .i64 x.kind, .int .i64 x.num]).cell 1
              have u_2 : (w10.alloc (.cells #[.string (bs x.name), .int .i64 x.kind, .int .i64 x.num] 45)).cell? ⟨wr.heap.size, 2, none⟩ = some (.int .i64 x.num) := (HX10.out.alloc _).cell 2
              have v_2 : (w10.alloc (.cells #[.string (bs x.name), .int .i64 x.kind, .int .i64 x.num] 45)).cell? ⟨w10.heap.size, 2, none⟩ = some (.int .i64 x.num) := (Blk.new w10 45 #[.string (bs x.name), .int .i64 x.kind, .int .i64 x.num]).cell 2
              have g1 : ∀ (x' y : Operand) (W : World), (eqGuard .neq 45 x' y (.agg #[.string (bs x.name), .int .i64 x.kind, .int .i64 x.num]) (.agg #[.string (bs x.name), .int .i64 x.kind, .int .i64 x.num])).run Tryd.prog W = .ok () W := fun x' y W => guard_nm .neq x' y x x W
              have g2 : ∀ W : World, (binOp .neq 45 (.agg #[.string (bs x.name), .int .i64 x.kind, .int .i64 x.num]) (.agg #[.string (bs x.name), .int .i64 x.kind, .int .i64 x.num])).run Tryd.prog W = .ok (.bool false) W := fun W => (run_neq_nm x x W).trans (by simp)
              go_wp2_with fail
              go_roundw
              case rel => exact ⟨j + 1, by omega, by go_num, Lib.hid (HB10.out.alloc HB10.out.size _)⟩
              case measure => simp [intOf]; omega
            · have HKr := Lib.hid (HKT.out.below HB.out HKT.out.lt)
              have HNr := Lib.hid (HNT.out.below HB.out HNT.out.lt)
              have k6 : wr.cell? ⟨w.heap.size, 6, none⟩ = some (.slice A9 (n6 + 1) c9) := HKr.out.cell 6
              have u_0 : wr.cell? ⟨w9.heap.size, 0, none⟩ = some (.string s) := HNr.out.cell 0
              have u_1 : wr.cell? ⟨w9.heap.size, 1, none⟩ = some (.int .i64 7) := HNr.out.cell 1
              have u_2 : wr.cell? ⟨w9.heap.size, 2, none⟩ = some (.int .i64 (n6 : Int)) := HNr.out.cell 2
              have g1 : ∀ (x' y : Operand) (W : World), (eqGuard .eql 45 x' y (.agg #[.string s, .int .i64 7, .int .i64 (n6 : Int)]) (.agg #[.string s, .int .i64 7, .int .i64 (n6 : Int)])).run Tryd.prog W = .ok () W := fun x' y W => by have := guard_nm .eql x' y ⟨s.data.toList, 7, n6⟩ ⟨s.data.toList, 7, n6⟩ W; unfold nmV at this; rw [bs_data] at this; exact this
              have g2 : ∀ W : World, (binOp .eql 45 (.agg #[.string s, .int .i64 7, .int .i64 (n6 : Int)]) (.agg #[.string s, .int .i64 7, .int .i64 (n6 : Int)])).run Tryd.prog W = .ok (.bool true) W := fun W => by have := run_eql_nm ⟨s.data.toList, 7, n6⟩ ⟨s.data.toList, 7, n6⟩ W; unfold nmV at this; rw [bs_data, decide_eq_true rfl] at this; exact this
              have m1 : ((n6 : Int) + 1 - 1) = n6 := by omega
              have m2 : (((nt : Int) + 1) == ((nt : Int) + 1)) = true := by simp
              go_wp2_with fail
              refine (awake15_any _ (HFL.out.below HBr.out (Nat.le_refl _))).mono ?_
              rintro e wz ⟨rfl, hbz⟩
              have HBZ := Lib.hid (HBr.out.trans (hbz.mono HBr.out.size))
              clear hbz
              go_wp2_with fail
              go_ret
              exact ⟨rfl, HBZ.out⟩
        · clear hz1 hz2
          have p0 : (w8.alloc (.cells #[.int .i64 ga, .int .i64 gb, .int .i64 gk, .string (bs gs)] 30)).cell? ⟨w3.heap.size, 0, none⟩ = some (.int .i64 0) := by rw [← hU]; exact HFU.out.cell 0
          have p1 : (w8.alloc (.cells #[.int .i64 ga, .int .i64 gb, .int .i64 gk, .string (bs gs)] 30)).cell? ⟨w3.heap.size, 1, none⟩ = some (.int .i64 0) := by rw [← hU]; exact HFU.out.cell 1
          have p2 : (w8.alloc (.cells #[.int .i64 ga, .int .i64 gb, .int .i64 gk, .string (bs gs)] 30)).cell? ⟨w3.heap.size, 2, none⟩ = some (.int .i64 0) := by rw [← hU]; exact HFU.out.cell 2
          have p3 : (w8.alloc (.cells #[.int .i64 ga, .int .i64 gb, .int .i64 gk, .string (bs gs)] 30)).cell? ⟨w3.heap.size, 3, none⟩ = some (.string ⟨#[]⟩) := by rw [← hU]; exact HFU.out.cell 3
          have q0 : (w8.alloc (.cells #[.int .i64 ga, .int .i64 gb, .int .i64 gk, .string (bs gs)] 30)).cell? ⟨w8.heap.size, 0, none⟩ = some (.int .i64 ga) := by rw [← hU]; exact HGU.out.cell 0
          have q1 : (w8.alloc (.cells #[.int .i64 ga, .int .i64 gb, .int .i64 gk, .string (bs gs)] 30)).cell? ⟨w8.heap.size, 1, none⟩ = some (.int .i64 gb) := by rw [← hU]; exact HGU.out.cell 1
          have q2 : (w8.alloc (.cells #[.int .i64 ga, .int .i64 gb, .int .i64 gk, .string (bs gs)] 30)).cell? ⟨w8.heap.size, 2, none⟩ = some (.int .i64 gk) := by rw [← hU]; exact HGU.out.cell 2
          have q3 : (w8.alloc (.cells #[.int .i64 ga, .int .i64 gb, .int .i64 gk, .string (bs gs)] 30)).cell? ⟨w8.heap.size, 3, none⟩ = some (.string (bs gs)) := by rw [← hU]; exact HGU.out.cell 3
          have e0 : ∀ (x y : Operand) (W : World), (eqGuard .neq 30 x y (.agg #[.int .i64 0, .int .i64 0, .int .i64 0, .string ⟨#[]⟩]) (.agg #[.int .i64 0, .int .i64 0, .int .i64 0, .string ⟨#[]⟩])).run Tryd.prog W = .ok () W := fun x y W => guard_fau .neq x y (0, 0, 0, []) (0, 0, 0, []) W
          have f0 : ∀ W : World, (binOp .neq 30 (.agg #[.int .i64 0, .int .i64 0, .int .i64 0, .string ⟨#[]⟩]) (.agg #[.int .i64 0, .int .i64 0, .int .i64 0, .string ⟨#[]⟩])).run Tryd.prog W = .ok (.bool false) W := fun W => (run_neq_fau (0, 0, 0, []) (0, 0, 0, []) W).trans (by simp)
          have e1 : ∀ (x y : Operand) (W : World), (eqGuard .neq 30 x y (.agg #[.int .i64 ga, .int .i64 gb, .int .i64 gk, .string (bs gs)]) (.agg #[.int .i64 0, .int .i64 0, .int .i64 0, .string ⟨#[]⟩])).run Tryd.prog W = .ok () W := fun x y W => guard_fau .neq x y (ga, gb, gk, gs) (0, 0, 0, []) W
          have f1 : ∀ W : World, (binOp .neq 30 (.agg #[.int .i64 ga, .int .i64 gb, .int .i64 gk, .string (bs gs)]) (.agg #[.int .i64 0, .int .i64 0, .int .i64 0, .string ⟨#[]⟩])).run Tryd.prog W = .ok (.bool true) W := fun W => (run_neq_fau (ga, gb, gk, gs) (0, 0, 0, []) W).trans (by simp [h1])
          have e2 : ∀ (x y : Operand) (W : World), (eqGuard .eql 30 x y (.agg #[.int .i64 0, .int .i64 0, .int .i64 0, .string ⟨#[]⟩]) (.agg #[.int .i64 0, .int .i64 0, .int .i64 0, .string ⟨#[]⟩])).run Tryd.prog W = .ok () W := fun x y W => guard_fau .eql x y (0, 0, 0, []) (0, 0, 0, []) W
          have f2 : ∀ W : World, (binOp .eql 30 (.agg #[.int .i64 0, .int .i64 0, .int .i64 0, .string ⟨#[]⟩]) (.agg #[.int .i64 0, .int .i64 0, .int .i64 0, .string ⟨#[]⟩])).run Tryd.prog W = .ok (.bool true) W := fun W => (run_eql_fau (0, 0, 0, []) (0, 0, 0, []) W).trans (by simp)
          go_wp2_with fail
          rw [← hU]
          refine (awake15_any _ (HFL.out.below HBU.out (Nat.le_refl _))).mono ?_
          rintro e wz ⟨rfl, hbz⟩
          have HBZ := Lib.hid (HBU.out.trans (hbz.mono HBU.out.size))
          clear hbz
          go_wp2_with fail
          go_ret
          exact ⟨rfl, HBZ.out⟩
      · have heq := (makeN_grow (gd := gdN) (d := d) (s := s.data.toList)).1 (by rw [hz1]; exact h0)
        rw [← HR2.out, ← HR.out] at heq
        simp only [Prod.mk.injEq] at heq
        obtain ⟨rfl, rfl, rfl, rfl, rfl⟩ := heq
        clear hz1 hz2
        have p0 : (w8.alloc (.cells #[.int .i64 ga, .int .i64 gb, .int .i64 gk, .string (bs gs)] 30)).cell? ⟨w3.heap.size, 0, none⟩ = some (.int .i64 ga) := by rw [← hU]; exact HFU.out.cell 0
        have p1 : (w8.alloc (.cells #[.int .i64 ga, .int .i64 gb, .int .i64 gk, .string (bs gs)] 30)).cell? ⟨w3.heap.size, 1, none⟩ = some (.int .i64 gb) := by rw [← hU]; exact HFU.out.cell 1
        have p2 : (w8.alloc (.cells #[.int .i64 ga, .int .i64 gb, .int .i64 gk, .string (bs gs)] 30)).cell? ⟨w3.heap.size, 2, none⟩ = some (.int .i64 gk) := by rw [← hU]; exact HFU.out.cell 2
        have p3 : (w8.alloc (.cells #[.int .i64 ga, .int .i64 gb, .int .i64 gk, .string (bs gs)] 30)).cell? ⟨w3.heap.size, 3, none⟩ = some (.string (bs gs)) := by rw [← hU]; exact HFU.out.cell 3
        have q0 : (w8.alloc (.cells #[.int .i64 ga, .int .i64 gb, .int .i64 gk, .string (bs gs)] 30)).cell? ⟨w8.heap.size, 0, none⟩ = some (.int .i64 ga) := by rw [← hU]; exact HGU.out.cell 0
        have q1 : (w8.alloc (.cells #[.int .i64 ga, .int .i64 gb, .int .i64 gk, .string (bs gs)] 30)).cell? ⟨w8.heap.size, 1, none⟩ = some (.int .i64 gb) := by rw [← hU]; exact HGU.out.cell 1
        have q2 : (w8.alloc (.cells #[.int .i64 ga, .int .i64 gb, .int .i64 gk, .string (bs gs)] 30)).cell? ⟨w8.heap.size, 2, none⟩ = some (.int .i64 gk) := by rw [← hU]; exact HGU.out.cell 2
        have q3 : (w8.alloc (.cells #[.int .i64 ga, .int .i64 gb, .int .i64 gk, .string (bs gs)] 30)).cell? ⟨w8.heap.size, 3, none⟩ = some (.string (bs gs)) := by rw [← hU]; exact HGU.out.cell 3
        have e0 : ∀ (x y : Operand) (W : World), (eqGuard .neq 30 x y (.agg #[.int .i64 ga, .int .i64 gb, .int .i64 gk, .string (bs gs)]) (.agg #[.int .i64 0, .int .i64 0, .int .i64 0, .string ⟨#[]⟩])).run Tryd.prog W = .ok () W := fun x y W => guard_fau .neq x y (ga, gb, gk, gs) (0, 0, 0, []) W
        have f0 : ∀ W : World, (binOp .neq 30 (.agg #[.int .i64 ga, .int .i64 gb, .int .i64 gk, .string (bs gs)]) (.agg #[.int .i64 0, .int .i64 0, .int .i64 0, .string ⟨#[]⟩])).run Tryd.prog W = .ok (.bool true) W := fun W => (run_neq_fau (ga, gb, gk, gs) (0, 0, 0, []) W).trans (by simp [h0])
        have e1 : ∀ (x y : Operand) (W : World), (eqGuard .eql 30 x y (.agg #[.int .i64 ga, .int .i64 gb, .int .i64 gk, .string (bs gs)]) (.agg #[.int .i64 0, .int .i64 0, .int .i64 0, .string ⟨#[]⟩])).run Tryd.prog W = .ok () W := fun x y W => guard_fau .eql x y (ga, gb, gk, gs) (0, 0, 0, []) W
        have f1 : ∀ W : World, (binOp .eql 30 (.agg #[.int .i64 ga, .int .i64 gb, .int .i64 gk, .string (bs gs)]) (.agg #[.int .i64 0, .int .i64 0, .int .i64 0, .string ⟨#[]⟩])).run Tryd.prog W = .ok (.bool false) W := fun W => (run_eql_fau (ga, gb, gk, gs) (0, 0, 0, []) W).trans (by simp [h0])
        have e2 : ∀ (x y : Operand) (W : World), (eqGuard .eql 30 x y (.agg #[.int .i64 ga, .int .i64 gb, .int .i64 gk, .string (bs gs)]) (.agg #[.int .i64 ga, .int .i64 gb, .int .i64 gk, .string (bs gs)])).run Tryd.prog W = .ok () W := fun x y W => guard_fau .eql x y (ga, gb, gk, gs) (ga, gb, gk, gs) W
        have f2 : ∀ W : World, (binOp .eql 30 (.agg #[.int .i64 ga, .int .i64 gb, .int .i64 gk, .string (bs gs)]) (.agg #[.int .i64 ga, .int .i64 gb, .int .i64 gk, .string (bs gs)])).run Tryd.prog W = .ok (.bool true) W := fun W => (run_eql_fau (ga, gb, gk, gs) (ga, gb, gk, gs) W).trans (by simp)
        go_wp2_with fail
        rw [← hU]
        refine (awake15_any _ (HFL.out.below HBU.out (Nat.le_refl _))).mono ?_
        rintro e wz ⟨rfl, hbz⟩
        have HBZ := Lib.hid (HBU.out.trans (hbz.mono HBU.out.size))
        clear hbz
        go_wp2_with fail
        go_ret
        exact ⟨rfl, HBZ.out⟩
    · go_enter Tryd.func7, Tryd.ntmps7
      go_wp2_with fail
      rw [← hW]
      clear hW
      go_wp2_with (refine wpList_load_row rfl 24 _ rfl w.heap.size rfl 24 #[.slice A0 n0 c0, .slice A1 n1 c1, .slice A2 n2 c2, .slice A3 n3 c3, .slice A4 n4 c4, .slice A5 n5 c5, .slice A6 n6 c6] (0, 0) _ HK0.out Tryd.underlying24 rfl dcl7_size ?_)
      refine (count_any ⟨A0, n0, c0, A1, n1, c1, A2, n2, c2, A3, n3, c3, A4, n4, c4, A5, n5, c5, A6, n6, c6⟩ W HBD.out).mono ?_
      rintro e w1 ⟨he, hb1⟩
      obtain rfl : e = .returned (.int .i64 (q : Int)) := by rw [he, HQ.out]
      have HB1 := Lib.hid (HB0.out.trans (hb1.mono HB0.out.size))
      have HK1 := Lib.hid (HK0.out.below hb1 HK0.out.lt)
      clear hb1 he
      go_wp2_with fail
      refine (awake15_any _ (HFL.out.below HB1.out (Nat.le_refl _))).mono ?_
      rintro e wz ⟨rfl, hbz⟩
      have HBZ := Lib.hid (HB1.out.trans (hbz.mono HB1.out.size))
      clear hbz
      go_wp2_with fail
      go_ret
      exact ⟨rfl, HBZ.out⟩
  · go_enter Tryd.func7, Tryd.ntmps7
    go_wp2_with fail
    rw [← hW]
    clear hW
    go_wp2_with (refine wpList_load_row rfl 24 _ rfl w.heap.size rfl 24 #[.slice A0 n0 c0, .slice A1 n1 c1, .slice A2 n2 c2, .slice A3 n3 c3, .slice A4 n4 c4, .slice A5 n5 c5, .slice A6 n6 c6] (0, 0) _ HK0.out Tryd.underlying24 rfl dcl7_size ?_)
    refine (count_any ⟨A0, n0, c0, A1, n1, c1, A2, n2, c2, A3, n3, c3, A4, n4, c4, A5, n5, c5, A6, n6, c6⟩ W HBD.out).mono ?_
    rintro e w1 ⟨he, hb1⟩
    obtain rfl : e = .returned (.int .i64 (q : Int)) := by rw [he, HQ.out]
    have HB1 := Lib.hid (HB0.out.trans (hb1.mono HB0.out.size))
    have HK1 := Lib.hid (HK0.out.below hb1 HK0.out.lt)
    clear hb1 he
    go_wp2_with fail
    refine (awake15_any _ (HFL.out.below HB1.out (Nat.le_refl _))).mono ?_
    rintro e wz ⟨rfl, hbz⟩
    have HBZ := Lib.hid (HB1.out.trans (hbz.mono HB1.out.size))
    clear hbz
    go_wp2_with fail
    go_ret
    exact ⟨rfl, HBZ.out⟩

end Go.Proofs.YtgeglhgkibcpfaaDoor
