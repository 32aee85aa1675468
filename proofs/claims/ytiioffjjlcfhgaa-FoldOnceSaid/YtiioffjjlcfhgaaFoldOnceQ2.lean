/- Contracts and lemmas that the proofs of this seat use. -/
import Derived.Test.YtiioffjjlcfhgaaFoldOnceQ1
namespace Go.Proofs.Ytiioffjjlcfhgaa

section
open Go.RowKit
set_option linter.unusedVariables false
set_option linter.unusedSimpArgs false

theorem step_storeF {P : Program} {ops : Array Oper} {o : Oper} {a : Act} {w : World} {K : Act → World → Prop} {Q : Exit → Act → World → Prop} {E : Prop} (hgd : o.guard = none) (ty : TypeId) (x y : Operand) (ho : o.op = .store ty x y)
    (g : Nat) (cells : Array Value) (hx : a.eval x = .pointer (some ⟨g, 0, none⟩)) (hy : a.eval y = .agg cells) (t : TypeId) (old : Array Value) (hg : w.heap[g]? = some (.cells old t (0, 0))) (hi : (P.info? ty).map (·.size) = some cells.size)
    (hold : old.size = cells.size) (h1 : cells.all (·.oneCell') = true) (h : K (a.put o.dst undef) (w.setRow g cells)) : if Region.wanted o (yielded ops a.tmps) = true then Oper.wp P o a w K Q else E := by
  have hw : Region.wanted o (yielded ops a.tmps) = true := by simp [Region.wanted, hgd]
  rw [if_pos hw]
  exact wp_store_row ty x y ho g cells hx hy t old hg hi hold h1 h
theorem drew_sizeF (w : World) : w.drew.heap.size = w.heap.size := rfl

theorem bit_size_FoldOnce : (Try.prog.info? 34).map (·.size) = some 22 := by kernel_rfl

set_option maxRecDepth 100000 in
set_option maxHeartbeats 12800000 in
theorem foldOnce_of (hE : ∀ x : EL, FoldAt 9 x) (hB : ∀ l : List SL, FoldBAt 12 l) (T : TV) (e : EL) (A : Option Addr) (n c : Nat) (ss : List SL) (loc : Int) (hloc : -9223372036854775808 ≤ loc ∧ loc ≤ 9223372036854775807) (w : World) (hT : T.In w w.heap.size) (hI : e.In w w.heap.size) (hrow : RowS6 w w.heap.size A n ss) (hins : ∀ x ∈ ss, x.In w w.heap.size) (hle : litP (plE e)) (hln : n * 104 ≤ 140737488355328) (hlb : ∀ x ∈ ss, litS (plS x)) :
    Calls Try.prog 5 #[.agg (T.cells ++ eCells e ++ #[.slice A n c, .int .i64 loc])] w fun f w' => f = .returned (.bool true) ∧ Below w.heap.size w w' := by
  obtain ⟨Q, hQ⟩ : ∃ Q : Bool → Prop, Q = fun b => (b = true → boundB T.tb loc e = true ∧ boundBs T.tb loc ss = true) := ⟨_, rfl⟩
  have HRT : Hid (∀ W : World, Below w.heap.size w W → Calls Try.prog 6 #[.agg (T.cells ++ eCells e ++ #[.slice A n c, .int .i64 loc])] W fun f w' => ∃ b : Bool, f = .returned (.bool b) ∧ Q b ∧ Below W.heap.size W w') := Lib.hid (fun W hb => (right18_any T e A n c ss loc hloc W ((hT.below hb).more hb.size) ((hI.below hb).more hb.size) ((hrow.below hb).more hb.size) (fun x hx => ((hins x hx).below hb).more hb.size)).mono fun f w' ⟨b, h1, h2, h3⟩ => ⟨b, h1, by rw [hQ]; exact h2, h3⟩)
  have HE1 : Hid (∀ W : World, Below w.heap.size w W → Calls Try.prog 9 #[eVal e] W fun f w' => ∃ y : EL, f = .returned (eVal y) ∧ (y.In w' w'.heap.size ∧ y.At (fun b => b < w.heap.size ∨ W.heap.size ≤ b) ∧ plE y = foldP (plE e)) ∧ Below W.heap.size W w') := Lib.hid (fun W hb => ((hE e) (fun b => b < w.heap.size) W ((hI.below hb).more hb.size) hI.atB hle).mono (by
    rintro f w' ⟨y, rfl, y1, y2, y3, hb2⟩
    exact ⟨y, rfl, ⟨y1, y2, y3⟩, hb2⟩))
  have HB1 : Hid (∀ W : World, Below w.heap.size w W → Calls Try.prog 12 #[.slice A n c] W fun f w' => ∃ (A' : Option Addr) (m c' : Nat) (ys : List SL), f = .returned (.slice A' m c') ∧ (RowS6 w' w'.heap.size A' m ys ∧ (∀ y ∈ ys, y.In w' w'.heap.size) ∧ ys.map plS = foldGo [] (ss.map plS) ∧ m * 104 ≤ 140737488355328 ∧ FreshRow W.heap.size A' m c' ∧ ∀ y ∈ ys, y.At (fun b => b < w.heap.size ∨ W.heap.size ≤ b)) ∧ Below W.heap.size W w') := Lib.hid (fun W hb => ((hB ss) (fun b => b < w.heap.size) W A n c ((hrow.below hb).more hb.size) (fun x hx => ((hins x hx).below hb).more hb.size) (fun x hx => (hins x hx).atB) (fun b h => Nat.lt_of_lt_of_le h hb.size) hln hlb).mono (by
    rintro f w' ⟨A', m, c', ys, rfl, y1, y2, y3, y4, y5, y6, hb2⟩
    exact ⟨A', m, c', ys, rfl, ⟨y1, y3, y5, y6, y2, y4⟩, hb2⟩))
  have HE := Lib.hid hE
  have HB := Lib.hid hB
  obtain ⟨p, hp⟩ : ∃ p, p = foldP (plE e) := ⟨_, rfl⟩
  obtain ⟨q, hq⟩ : ∃ q, q = foldGo [] (ss.map plS) := ⟨_, rfl⟩
  have HPI := Lib.hid (show foldP p = p from by rw [hp]; exact foldP_idem _)
  have HQI := Lib.hid (show ¬ staysPs q → foldGo [] q = q from by rw [hq]; exact foldGo_idem _)
  have HPL := Lib.hid (show litP p from by rw [hp]; exact litP_fold _ hle)
  have HQL := Lib.hid (show ∀ z ∈ q, litS z from by rw [hq]; exact litS_foldGo (ss.map plS) (fun z hz => by obtain ⟨x, hx, rfl⟩ := List.mem_map.1 hz; exact hlb x hx))
  rw [← hp] at HE1
  rw [← hq] at HB1
  clear hE hB hT hI hrow hins hle hln hlb hp hq hQ hloc
  obtain ⟨t1, t2, t3, t4, S1, m1, k1, fl, S2, m2, k2, S3, m3, k3, S4, m4, k4, S5, m5, k5, S6, m6, k6, S7, m7, k7, S8, m8, k8, S9, m9, k9, S10, m10, k10, fs, ps⟩ := T
  obtain ⟨k, o, m, s, B, bn, bc, es⟩ := e
  simp only [TV.cells, eVal, eCells, EL.kind, EL.op, EL.num, EL.name, EL.A, EL.n, EL.c] at HE1 HRT ⊢
  have HR2 : Hid (∀ W : World, Below w.heap.size w W → Calls Try.prog 6 #[.agg #[.int .i64 t1, .int .i64 t2, .int .i64 t3, .int .i64 t4, .slice S1 m1 k1, .int .i64 fl, .slice S2 m2 k2, .slice S3 m3 k3, .slice S4 m4 k4, .slice S5 m5 k5, .slice S6 m6 k6, .slice S7 m7 k7, .slice S8 m8 k8, .slice S9 m9 k9, .slice S10 m10 k10, .int .i64 k, .int .i64 o, .int .i64 m, .string (bs s), .slice B bn bc, .slice A n c, .int .i64 loc]] W fun f w' => ∃ b : Bool, f = .returned (.bool b) ∧ Q b ∧ Below W.heap.size W w') := HRT
  clear HRT
  show Calls Try.prog _ #[.agg #[.int .i64 t1, .int .i64 t2, .int .i64 t3, .int .i64 t4, .slice S1 m1 k1, .int .i64 fl, .slice S2 m2 k2, .slice S3 m3 k3, .slice S4 m4 k4, .slice S5 m5 k5, .slice S6 m6 k6, .slice S7 m7 k7, .slice S8 m8 k8, .slice S9 m9 k9, .slice S10 m10 k10, .int .i64 k, .int .i64 o, .int .i64 m, .string (bs s), .slice B bn bc, .slice A n c, .int .i64 loc]] w _
  obtain ⟨W, hW⟩ : ∃ W, W = w.alloc (.cells #[.int .i64 t1, .int .i64 t2, .int .i64 t3, .int .i64 t4, .slice S1 m1 k1, .int .i64 fl, .slice S2 m2 k2, .slice S3 m3 k3, .slice S4 m4 k4, .slice S5 m5 k5, .slice S6 m6 k6, .slice S7 m7 k7, .slice S8 m8 k8, .slice S9 m9 k9, .slice S10 m10 k10, .int .i64 k, .int .i64 o, .int .i64 m, .string (bs s), .slice B bn bc, .slice A n c, .int .i64 loc] 34) := ⟨_, rfl⟩
  have HBW : Hid (Below w.heap.size w W) := Lib.hid (by rw [hW]; exact (Below.refl _ _).alloc (Nat.le_refl _) _)
  have HK : Hid (Blk W w.heap.size 34 #[.int .i64 t1, .int .i64 t2, .int .i64 t3, .int .i64 t4, .slice S1 m1 k1, .int .i64 fl, .slice S2 m2 k2, .slice S3 m3 k3, .slice S4 m4 k4, .slice S5 m5 k5, .slice S6 m6 k6, .slice S7 m7 k7, .slice S8 m8 k8, .slice S9 m9 k9, .slice S10 m10 k10, .int .i64 k, .int .i64 o, .int .i64 m, .string (bs s), .slice B bn bc, .slice A n c, .int .i64 loc]) := Lib.hid (by rw [hW]; exact Blk.new _ _ _)
  go_enter Try.func5, Try.ntmps5
  go_wp2_with (first | (refine wpList_load_row rfl 34 _ rfl w.heap.size rfl 34 #[.int .i64 t1, .int .i64 t2, .int .i64 t3, .int .i64 t4, .slice S1 m1 k1, .int .i64 fl, .slice S2 m2 k2, .slice S3 m3 k3, .slice S4 m4 k4, .slice S5 m5 k5, .slice S6 m6 k6, .slice S7 m7 k7, .slice S8 m8 k8, .slice S9 m9 k9, .slice S10 m10 k10, .int .i64 k, .int .i64 o, .int .i64 m, .string (bs s), .slice B bn bc, .slice A n c, .int .i64 loc] (0, 0) _ (Blk.new w _ _) Try.underlying34 rfl bit_size_FoldOnce ?_) | fail)
  rw [← hW]
  clear hW
  refine (HR2.out W HBW.out).mono ?_
  rintro f w1 ⟨b, rfl, hbt, hb1⟩
  have HBT := Lib.hid hbt
  clear hbt
  have HX1 := Lib.hid (HBW.out.trans (hb1.mono HBW.out.size))
  have HW1 := Lib.hid hb1
  clear hb1
  cases b with
  | false =>
    go_wp2_with fail
    refine (awake18_of HE.out HB.out w1).mono ?_
    rintro f w2 ⟨rfl, hb2⟩
    go_wp2_with fail
    go_ret
    exact ⟨rfl, HX1.out.trans (hb2.mono HX1.out.size)⟩
  | true =>
    have hcx : Hid (∀ u : World, Below w1.heap.size w1 u → u.cell? ⟨w.heap.size, 15, none⟩ = some (.int .i64 k) ∧ u.cell? ⟨w.heap.size, 16, none⟩ = some (.int .i64 o) ∧ u.cell? ⟨w.heap.size, 17, none⟩ = some (.int .i64 m) ∧ u.cell? ⟨w.heap.size, 18, none⟩ = some (.string (bs s)) ∧ u.cell? ⟨w.heap.size, 19, none⟩ = some (.slice B bn bc) ∧ u.cell? ⟨w.heap.size, 20, none⟩ = some (.slice A n c)) := Lib.hid (fun u hb => by
      have hk2 := (HK.out.below HW1.out HK.out.lt).below hb (HK.out.below HW1.out HK.out.lt).lt
      exact ⟨hk2.cell 15, hk2.cell 16, hk2.cell 17, hk2.cell 18, hk2.cell 19, hk2.cell 20⟩)
    go_wp2_with fail
    refine wp_region_held_drew (S := Below w1.heap.size w1) (by kernel_rfl) (Below.refl _ _).drew (fun hHeld => ?_)
    refine held_take (i := 0) (fuel := 8) (v := ?_) (by rw [List.getElem?_toArray]; rfl) (by kernel_rfl) (by kernel_rfl) (by kernel_rfl) hHeld ?_ ?_ ?_ ?_
    rotate_left
    · intro u hSw
      go_simp
      try with_reducible rfl
    · rfl
    · exact fun _ _ _ h => h
    try simp only [Act.put, List.setIfInBounds_toArray, List.set_cons_zero, List.set_cons_succ]
    refine held_take (i := 1) (fuel := 7) (v := ?_) (by rw [List.getElem?_toArray]; rfl) (by kernel_rfl) (by kernel_rfl) (by kernel_rfl) hHeld ?_ ?_ ?_ ?_
    rotate_left
    · intro u hSw
      obtain ⟨c0, c1, c2, c3, c4, c5⟩ := hcx.out u hSw
      go_simp
      try with_reducible rfl
    · rfl
    · exact fun _ _ _ h => h
    try simp only [Act.put, List.setIfInBounds_toArray, List.set_cons_zero, List.set_cons_succ]
    refine held_take (i := 3) (fuel := 6) (v := ?_) (by rw [List.getElem?_toArray]; rfl) (by kernel_rfl) (by kernel_rfl) (by kernel_rfl) hHeld ?_ ?_ ?_ ?_
    rotate_left
    · intro u hSw
      go_simp
      try with_reducible rfl
    · rfl
    · exact fun _ _ _ h => h
    try simp only [Act.put, List.setIfInBounds_toArray, List.set_cons_zero, List.set_cons_succ]
    refine held_take (i := 4) (fuel := 5) (v := ?_) (by rw [List.getElem?_toArray]; rfl) (by kernel_rfl) (by kernel_rfl) (by kernel_rfl) hHeld ?_ ?_ ?_ ?_
    rotate_left
    · intro u hSw
      obtain ⟨c0, c1, c2, c3, c4, c5⟩ := hcx.out u hSw
      go_simp
      try with_reducible rfl
    · rfl
    · exact fun _ _ _ h => h
    try simp only [Act.put, List.setIfInBounds_toArray, List.set_cons_zero, List.set_cons_succ]
    refine wpAnyH_ready (rs := [2, 6]) (fuel := 4) (by kernel_rfl) (by simp) ?_
    refine AllReadyH.cons (by rw [List.getElem?_toArray]; rfl) (fun K hK => ?_) ?_
    ·
      go_simp
      refine (HE1.out _ (HX1.out.trans (hHeld.mono HX1.out.size))).mono ?_
      rintro f w2 ⟨y, rfl, hy, hb2⟩
      have Hy := Lib.hid hy
      clear hy
      refine hK.out _ _ ?_ (fun hHeld => ?_)
      · exact hHeld.trans (hb2.mono hHeld.size)
      clear hK K
      try simp only [Act.put, List.setIfInBounds_toArray, List.set_cons_zero, List.set_cons_succ]
      have HD2 := Lib.hid hb2
      clear hb2
      refine wpAnyH_ready (rs := [5, 6]) (fuel := 3) (by kernel_rfl) (by simp) ?_
      refine AllReadyH.cons (by rw [List.getElem?_toArray]; rfl) (fun K hK => ?_) ?_
      ·
        go_simp
        refine (HB1.out _ (HX1.out.trans (hHeld.mono HX1.out.size))).mono ?_
        rintro f w3 ⟨ysA, ysm, ysc, ys, rfl, hy, hb3⟩
        have Hys := Lib.hid hy
        clear hy
        refine hK.out _ _ ?_ (fun hHeld => ?_)
        · exact hHeld.trans (hb3.mono hHeld.size)
        clear hK K
        try simp only [Act.put, List.setIfInBounds_toArray, List.set_cons_zero, List.set_cons_succ]
        have HD3 := Lib.hid hb3
        clear hb3
        refine held_one (i := 6) (fuel := 2) (by kernel_rfl) (by rw [List.getElem?_toArray]; rfl) (fun K hK => ?_)
        go_simp
        refine hK.out _ _ ?_ (fun hHeld => ?_)
        · exact hHeld.alloc hHeld.size _
        clear hK K
        try simp only [Act.put, List.setIfInBounds_toArray, List.set_cons_zero, List.set_cons_succ]
        obtain ⟨wa, hwa⟩ : ∃ W, W = w3.alloc (.cells #[.int .i64 0, .int .i64 0, .int .i64 0, .string ⟨#[]⟩, .slice none 0 0] 31) := ⟨_, rfl⟩
        rw [← hwa] at hHeld
        rw [← hwa]
        have HKA : Hid (Blk wa w3.heap.size 31 #[.int .i64 0, .int .i64 0, .int .i64 0, .string ⟨#[]⟩, .slice none 0 0]) := Lib.hid (by rw [hwa]; exact Blk.new _ _ _)
        have HDA : Hid (Below w3.heap.size w3 wa) := Lib.hid (by rw [hwa]; exact (Below.refl _ _).alloc (Nat.le_refl _) _)
        have HSA : Hid (wa.heap.size = w3.heap.size + 1) := Lib.hid (by rw [hwa]; simp)
        clear hwa
        refine held_one (i := 7) (fuel := 1) (by kernel_rfl) (by rw [List.getElem?_toArray]; rfl) (fun K hK => ?_)
        obtain ⟨g, hg⟩ : ∃ g, g = w3.heap.size := ⟨_, rfl⟩
        have hgw : w.heap.size ≤ g ∧ w1.heap.size ≤ g := by have := HX1.out.size; have := hHeld.size; have := HD2.out.size; have := HD3.out.size; have : w1.drew.heap.size = w1.heap.size := rfl; omega
        have hkl : Blk wa g 31 #[.int .i64 0, .int .i64 0, .int .i64 0, .string ⟨#[]⟩, .slice none 0 0] := by rw [hg]; exact HKA.out
        have hyl : y.In wa wa.heap.size := ((((Hy.out.1.below HD3.out).more HD3.out.size).below HDA.out).more HDA.out.size)
        have hya : y.At (fun b => b ≠ g) := (Hy.out.2.1.and Hy.out.1.atB).mono (fun b hb => by have := HSA.out; have := HD3.out.size; have : w1.drew.heap.size = w1.heap.size := rfl; omega)
        have hsl : RowS6 wa wa.heap.size ysA ysm ys := ((Hys.out.1.below HDA.out).more HDA.out.size)
        have hsi : ∀ x ∈ ys, x.In wa wa.heap.size := fun x hx => (((Hys.out.2.1 x hx).below HDA.out).more HDA.out.size)
        have hsa : ∀ x ∈ ys, x.At (fun b => b ≠ g) := fun x hx => ((Hys.out.2.2.2.2.2 x hx).and (Hys.out.2.1 x hx).atB).mono (fun b hb => by have := HSA.out; have := HD2.out.size; have := HD3.out.size; have : w1.drew.heap.size = w1.heap.size := rfl; omega)
        have hsr : 0 < ysm → ∀ ad : Addr, ysA = some ad → ad.block ≠ g := fun hm ad e => by
          have h1 := (Hys.out.2.2.2.2.1.2 ad e).1
          obtain ⟨ad', e', h2, _⟩ := Hys.out.1.2.2 hm
          rw [e] at e'
          obtain rfl : ad = ad' := by injection e'
          have := HSA.out; have := HD2.out.size; have := HD3.out.size; have : w1.drew.heap.size = w1.heap.size := rfl; omega
        have hyp := Hy.out.2.2
        have hsp := Hys.out.2.2.1
        have hsm := Hys.out.2.2.2.1
        subst hg
        refine step_storeF (by rfl) 31 _ _ (by rfl) (w3.heap.size) (eCells y) (by rfl) (by rfl) 31 #[.int .i64 0, .int .i64 0, .int .i64 0, .string ⟨#[]⟩, .slice none 0 0] hkl expr_size rfl (expr_one _ _ _ _ _ _ _) ?_
        refine hK.out _ _ ?_ (fun hHeld => ?_)
        · exact below_setRow hHeld hgw.2 _
        clear hK K
        try simp only [Act.put, List.setIfInBounds_toArray, List.set_cons_zero, List.set_cons_succ]
        obtain ⟨Z, hZ⟩ : ∃ Z, Z = wa.setRow (w3.heap.size) (eCells y) := ⟨_, rfl⟩
        rw [← hZ] at hHeld
        rw [← hZ]
        have hk : ∀ p : Addr, p.block ≠ w3.heap.size → Z.cell? p = wa.cell? p := fun p hp => by rw [hZ]; exact cell_of_heap (setRow_other _ _ _ _ hp)
        have hzs : Z.heap.size = wa.heap.size := by rw [hZ]; simp
        have HKZ : Hid (Blk Z (w3.heap.size) 31 (eCells y)) := Lib.hid (by rw [hZ]; exact setRow_heap _ _ _ _ _ _ hkl)
        have HYZ : Hid (y.In Z Z.heap.size ∧ plE y = p) := Lib.hid ⟨hyl.keepS (S := fun b => b ≠ w3.heap.size) (by omega) (fun p hp _ => hk p hp) hya, hyp⟩
        have HSZ : Hid (RowS6 Z Z.heap.size ysA ysm ys ∧ (∀ x ∈ ys, x.In Z Z.heap.size) ∧ ys.map plS = q ∧ ysm * 104 ≤ 140737488355328) := Lib.hid ⟨hsl.keepS (S := fun b => b ≠ w3.heap.size) hsr (by omega) (fun p hp _ => hk p hp), fun x hx => (hsi x hx).keepS (S := fun b => b ≠ w3.heap.size) (by omega) (fun p hp _ => hk p hp) (hsa x hx), hsp, hsm⟩
        have HZX : Hid (Below w.heap.size w Z) := Lib.hid (HX1.out.trans (hHeld.mono HX1.out.size))
        clear hk hzs hZ hyl hya hsl hsi hsa hsr hyp hsp hsm hkl hgw
        obtain ⟨yk, yo, ym, yS, yA, yn, yc, yes⟩ := y
        have hcz : Hid (∀ u : World, Below Z.heap.size Z u → u.cell? ⟨w3.heap.size, 0, none⟩ = some (.int .i64 yk) ∧ u.cell? ⟨w3.heap.size, 1, none⟩ = some (.int .i64 yo) ∧ u.cell? ⟨w3.heap.size, 2, none⟩ = some (.int .i64 ym) ∧ u.cell? ⟨w3.heap.size, 3, none⟩ = some (.string (bs yS)) ∧ u.cell? ⟨w3.heap.size, 4, none⟩ = some (.slice yA yn yc)) := Lib.hid (fun u hb => by
          have hk2 := HKZ.out.below hb HKZ.out.lt
          exact ⟨hk2.cell 0, hk2.cell 1, hk2.cell 2, hk2.cell 3, hk2.cell 4⟩)
        refine held_take (i := 8) (fuel := 0) (v := ?_) (by rw [List.getElem?_toArray]; rfl) (by kernel_rfl) (by kernel_rfl) (by kernel_rfl) hHeld ?_ ?_ ?_ ?_
        rotate_left
        · intro u hSw
          go_simp
          try with_reducible rfl
        · rfl
        · exact fun _ _ _ h => h
        try simp only [Act.put, List.setIfInBounds_toArray, List.set_cons_zero, List.set_cons_succ]
        refine wpAnyH_done (by kernel_rfl) ?_ _
        go_wp2_with fail
        clear hHeld
        by_cases hst : staysPs q
        · skip
          refine wp_region_held_drew (S := Below Z.heap.size Z) (by kernel_rfl) (Below.refl _ _).drew (fun hHeld => ?_)
          refine held_take (i := 0) (fuel := 17) (v := ?_) (by rw [List.getElem?_toArray]; rfl) (by kernel_rfl) (by kernel_rfl) (by kernel_rfl) hHeld ?_ ?_ ?_ ?_
          rotate_left
          · intro u hSw
            obtain ⟨c0, c1, c2, c3, c4⟩ := hcz.out u hSw
            go_simp
            try with_reducible rfl
          · rfl
          · exact fun _ _ _ h => h
          try simp only [Act.put, List.setIfInBounds_toArray, List.set_cons_zero, List.set_cons_succ]
          refine held_take (i := 2) (fuel := 16) (v := ?_) (by rw [List.getElem?_toArray]; rfl) (by kernel_rfl) (by kernel_rfl) (by kernel_rfl) hHeld ?_ ?_ ?_ ?_
          rotate_left
          · intro u hSw
            obtain ⟨c0, c1, c2, c3, c4⟩ := hcz.out u hSw
            go_simp
            try with_reducible rfl
          · rfl
          · exact fun _ _ _ h => h
          try simp only [Act.put, List.setIfInBounds_toArray, List.set_cons_zero, List.set_cons_succ]
          refine held_one (i := 1) (fuel := 15) (by kernel_rfl) (by rw [List.getElem?_toArray]; rfl) (fun K hK => ?_)
          go_simp
          refine (HE.out (EL.mk yk yo ym yS yA yn yc yes) (fun b => b < Z.heap.size) _ ((HYZ.out.1.below hHeld).more hHeld.size) HYZ.out.1.atB (by rw [HYZ.out.2]; exact HPL.out)).mono ?_
          rintro f w4 ⟨z, rfl, z1, z2, z3, hb4⟩
          have HZI : Hid (z.In w4 w4.heap.size ∧ plE z = p) := Lib.hid ⟨z1, by rw [z3, HYZ.out.2, HPI.out]⟩
          clear z1 z2 z3
          refine hK.out _ _ ?_ (fun hHeld => ?_)
          · exact hHeld.trans (hb4.mono hHeld.size)
          clear hK K
          try simp only [Act.put, List.setIfInBounds_toArray, List.set_cons_zero, List.set_cons_succ]
          clear hb4
          refine held_one (i := 3) (fuel := 14) (by kernel_rfl) (by rw [List.getElem?_toArray]; rfl) (fun K hK => ?_)
          go_simp
          have hs : sameE z (EL.mk yk yo ym yS yA yn yc yes) = true := (sameE_pl _ _).2 (by rw [HZI.out.2, HYZ.out.2])
          refine (tSame_any z (EL.mk yk yo ym yS yA yn yc yes) _ HZI.out.1 ((HYZ.out.1.below hHeld).more hHeld.size)).mono ?_
          rw [hs]
          rintro f w5 ⟨rfl, hb5⟩
          clear hs
          refine hK.out _ _ ?_ (fun hHeld => ?_)
          · exact hHeld.trans (hb5.mono hHeld.size)
          clear hK K
          try simp only [Act.put, List.setIfInBounds_toArray, List.set_cons_zero, List.set_cons_succ]
          clear hb5
          refine held_take (i := 4) (fuel := 13) (v := ?_) (by rw [List.getElem?_toArray]; rfl) (by kernel_rfl) (by kernel_rfl) (by kernel_rfl) hHeld ?_ ?_ ?_ ?_
          rotate_left
          · intro u hSw
            go_simp
            try with_reducible rfl
          · rfl
          · exact fun _ _ _ h => h
          try simp only [Act.put, List.setIfInBounds_toArray, List.set_cons_zero, List.set_cons_succ]
          refine held_take (i := 5) (fuel := 12) (v := ?_) (by rw [List.getElem?_toArray]; rfl) (by kernel_rfl) (by kernel_rfl) (by kernel_rfl) hHeld ?_ ?_ ?_ ?_
          rotate_left
          · intro u hSw
            go_simp
            try with_reducible rfl
          · rfl
          · exact fun _ _ _ h => h
          try simp only [Act.put, List.setIfInBounds_toArray, List.set_cons_zero, List.set_cons_succ]
          refine held_one (i := 6) (fuel := 11) (by kernel_rfl) (by rw [List.getElem?_toArray]; rfl) (fun K hK => ?_)
          go_simp
          refine (stays18_any ys _ ysA ysm ysc ((HSZ.out.1.below hHeld).more hHeld.size) (fun x hx => ((HSZ.out.2.1 x hx).below hHeld).more hHeld.size)).mono ?_
          rintro f w6 ⟨b, rfl, hb, hb6⟩
          obtain rfl : b = true := hb.2 (by rw [HSZ.out.2.2.1]; exact hst)
          refine hK.out _ _ ?_ (fun hHeld => ?_)
          · exact hHeld.trans (hb6.mono hHeld.size)
          clear hK K
          try simp only [Act.put, List.setIfInBounds_toArray, List.set_cons_zero, List.set_cons_succ]
          clear hb6 hb
          refine held_take (i := 7) (fuel := 10) (v := ?_) (by rw [List.getElem?_toArray]; rfl) (by kernel_rfl) (by kernel_rfl) (by kernel_rfl) hHeld ?_ ?_ ?_ ?_
          rotate_left
          · intro u hSw
            go_simp
            try with_reducible rfl
          · rfl
          · exact fun _ _ _ h => h
          try simp only [Act.put, List.setIfInBounds_toArray, List.set_cons_zero, List.set_cons_succ]
          refine held_skip (i := 8) (fuel := 9) (by rw [List.getElem?_toArray]; rfl) (by kernel_rfl) (by kernel_rfl) (by kernel_rfl) hHeld ?_ ?_ ?_
          · rfl
          · exact fun _ _ _ h => h
          try simp only [Act.put, List.setIfInBounds_toArray, List.set_cons_zero, List.set_cons_succ]
          refine held_skip (i := 9) (fuel := 8) (by rw [List.getElem?_toArray]; rfl) (by kernel_rfl) (by kernel_rfl) (by kernel_rfl) hHeld ?_ ?_ ?_
          · rfl
          · exact fun _ _ _ h => h
          try simp only [Act.put, List.setIfInBounds_toArray, List.set_cons_zero, List.set_cons_succ]
          refine held_skip (i := 10) (fuel := 7) (by rw [List.getElem?_toArray]; rfl) (by kernel_rfl) (by kernel_rfl) (by kernel_rfl) hHeld ?_ ?_ ?_
          · rfl
          · exact fun _ _ _ h => h
          try simp only [Act.put, List.setIfInBounds_toArray, List.set_cons_zero, List.set_cons_succ]
          refine held_skip (i := 11) (fuel := 6) (by rw [List.getElem?_toArray]; rfl) (by kernel_rfl) (by kernel_rfl) (by kernel_rfl) hHeld ?_ ?_ ?_
          · rfl
          · exact fun _ _ _ h => h
          try simp only [Act.put, List.setIfInBounds_toArray, List.set_cons_zero, List.set_cons_succ]
          refine held_take (i := 12) (fuel := 5) (v := ?_) (by rw [List.getElem?_toArray]; rfl) (by kernel_rfl) (by kernel_rfl) (by kernel_rfl) hHeld ?_ ?_ ?_ ?_
          rotate_left
          · intro u hSw
            go_simp
            try with_reducible rfl
          · rfl
          · exact fun _ _ _ h => h
          try simp only [Act.put, List.setIfInBounds_toArray, List.set_cons_zero, List.set_cons_succ]
          refine held_take (i := 13) (fuel := 4) (v := ?_) (by rw [List.getElem?_toArray]; rfl) (by kernel_rfl) (by kernel_rfl) (by kernel_rfl) hHeld ?_ ?_ ?_ ?_
          rotate_left
          · intro u hSw
            go_simp
            try with_reducible rfl
          · rfl
          · exact fun _ _ _ h => h
          try simp only [Act.put, List.setIfInBounds_toArray, List.set_cons_zero, List.set_cons_succ]
          refine held_take (i := 14) (fuel := 3) (v := ?_) (by rw [List.getElem?_toArray]; rfl) (by kernel_rfl) (by kernel_rfl) (by kernel_rfl) hHeld ?_ ?_ ?_ ?_
          rotate_left
          · intro u hSw
            go_simp
            try with_reducible rfl
          · rfl
          · exact fun _ _ _ h => h
          try simp only [Act.put, List.setIfInBounds_toArray, List.set_cons_zero, List.set_cons_succ]
          refine held_one (i := 15) (fuel := 2) (by kernel_rfl) (by rw [List.getElem?_toArray]; rfl) (fun K hK => ?_)
          go_simp
          refine (awake18_of HE.out HB.out _).mono ?_
          rintro f w9 ⟨rfl, hb9⟩
          refine hK.out _ _ ?_ (fun hHeld => ?_)
          · exact hHeld.trans (hb9.mono hHeld.size)
          clear hK K
          try simp only [Act.put, List.setIfInBounds_toArray, List.set_cons_zero, List.set_cons_succ]
          clear hb9
          refine held_take (i := 16) (fuel := 1) (v := ?_) (by rw [List.getElem?_toArray]; rfl) (by kernel_rfl) (by kernel_rfl) (by kernel_rfl) hHeld ?_ ?_ ?_ ?_
          rotate_left
          · intro u hSw
            go_simp
            try with_reducible rfl
          · rfl
          · exact fun _ _ _ h => h
          try simp only [Act.put, List.setIfInBounds_toArray, List.set_cons_zero, List.set_cons_succ]
          refine held_take (i := 17) (fuel := 0) (v := ?_) (by rw [List.getElem?_toArray]; rfl) (by kernel_rfl) (by kernel_rfl) (by kernel_rfl) hHeld ?_ ?_ ?_ ?_
          rotate_left
          · intro u hSw
            go_simp
            try with_reducible rfl
          · rfl
          · exact fun _ _ _ h => h
          try simp only [Act.put, List.setIfInBounds_toArray, List.set_cons_zero, List.set_cons_succ]
          refine wpAnyH_done (by kernel_rfl) ?_ _
          have HF := Lib.hid (HZX.out.trans (hHeld.mono HZX.out.size))
          go_wp2_with fail
          go_ret
          exact ⟨rfl, HF.out⟩
        · skip
          refine wp_region_held_drew (S := Below Z.heap.size Z) (by kernel_rfl) (Below.refl _ _).drew (fun hHeld => ?_)
          refine held_take (i := 0) (fuel := 17) (v := ?_) (by rw [List.getElem?_toArray]; rfl) (by kernel_rfl) (by kernel_rfl) (by kernel_rfl) hHeld ?_ ?_ ?_ ?_
          rotate_left
          · intro u hSw
            obtain ⟨c0, c1, c2, c3, c4⟩ := hcz.out u hSw
            go_simp
            try with_reducible rfl
          · rfl
          · exact fun _ _ _ h => h
          try simp only [Act.put, List.setIfInBounds_toArray, List.set_cons_zero, List.set_cons_succ]
          refine held_take (i := 2) (fuel := 16) (v := ?_) (by rw [List.getElem?_toArray]; rfl) (by kernel_rfl) (by kernel_rfl) (by kernel_rfl) hHeld ?_ ?_ ?_ ?_
          rotate_left
          · intro u hSw
            obtain ⟨c0, c1, c2, c3, c4⟩ := hcz.out u hSw
            go_simp
            try with_reducible rfl
          · rfl
          · exact fun _ _ _ h => h
          try simp only [Act.put, List.setIfInBounds_toArray, List.set_cons_zero, List.set_cons_succ]
          refine held_one (i := 1) (fuel := 15) (by kernel_rfl) (by rw [List.getElem?_toArray]; rfl) (fun K hK => ?_)
          go_simp
          refine (HE.out (EL.mk yk yo ym yS yA yn yc yes) (fun b => b < Z.heap.size) _ ((HYZ.out.1.below hHeld).more hHeld.size) HYZ.out.1.atB (by rw [HYZ.out.2]; exact HPL.out)).mono ?_
          rintro f w4 ⟨z, rfl, z1, z2, z3, hb4⟩
          have HZI : Hid (z.In w4 w4.heap.size ∧ plE z = p) := Lib.hid ⟨z1, by rw [z3, HYZ.out.2, HPI.out]⟩
          clear z1 z2 z3
          refine hK.out _ _ ?_ (fun hHeld => ?_)
          · exact hHeld.trans (hb4.mono hHeld.size)
          clear hK K
          try simp only [Act.put, List.setIfInBounds_toArray, List.set_cons_zero, List.set_cons_succ]
          clear hb4
          refine held_one (i := 3) (fuel := 14) (by kernel_rfl) (by rw [List.getElem?_toArray]; rfl) (fun K hK => ?_)
          go_simp
          have hs : sameE z (EL.mk yk yo ym yS yA yn yc yes) = true := (sameE_pl _ _).2 (by rw [HZI.out.2, HYZ.out.2])
          refine (tSame_any z (EL.mk yk yo ym yS yA yn yc yes) _ HZI.out.1 ((HYZ.out.1.below hHeld).more hHeld.size)).mono ?_
          rw [hs]
          rintro f w5 ⟨rfl, hb5⟩
          clear hs
          refine hK.out _ _ ?_ (fun hHeld => ?_)
          · exact hHeld.trans (hb5.mono hHeld.size)
          clear hK K
          try simp only [Act.put, List.setIfInBounds_toArray, List.set_cons_zero, List.set_cons_succ]
          clear hb5
          refine held_take (i := 4) (fuel := 13) (v := ?_) (by rw [List.getElem?_toArray]; rfl) (by kernel_rfl) (by kernel_rfl) (by kernel_rfl) hHeld ?_ ?_ ?_ ?_
          rotate_left
          · intro u hSw
            go_simp
            try with_reducible rfl
          · rfl
          · exact fun _ _ _ h => h
          try simp only [Act.put, List.setIfInBounds_toArray, List.set_cons_zero, List.set_cons_succ]
          refine held_take (i := 5) (fuel := 12) (v := ?_) (by rw [List.getElem?_toArray]; rfl) (by kernel_rfl) (by kernel_rfl) (by kernel_rfl) hHeld ?_ ?_ ?_ ?_
          rotate_left
          · intro u hSw
            go_simp
            try with_reducible rfl
          · rfl
          · exact fun _ _ _ h => h
          try simp only [Act.put, List.setIfInBounds_toArray, List.set_cons_zero, List.set_cons_succ]
          refine held_one (i := 6) (fuel := 11) (by kernel_rfl) (by rw [List.getElem?_toArray]; rfl) (fun K hK => ?_)
          go_simp
          refine (stays18_any ys _ ysA ysm ysc ((HSZ.out.1.below hHeld).more hHeld.size) (fun x hx => ((HSZ.out.2.1 x hx).below hHeld).more hHeld.size)).mono ?_
          rintro f w6 ⟨b, rfl, hb, hb6⟩
          obtain rfl : b = false := by
            cases b with
            | false => rfl
            | true => exact absurd (by rw [← HSZ.out.2.2.1]; exact hb.1 rfl) hst
          refine hK.out _ _ ?_ (fun hHeld => ?_)
          · exact hHeld.trans (hb6.mono hHeld.size)
          clear hK K
          try simp only [Act.put, List.setIfInBounds_toArray, List.set_cons_zero, List.set_cons_succ]
          clear hb6 hb
          refine held_take (i := 7) (fuel := 10) (v := ?_) (by rw [List.getElem?_toArray]; rfl) (by kernel_rfl) (by kernel_rfl) (by kernel_rfl) hHeld ?_ ?_ ?_ ?_
          rotate_left
          · intro u hSw
            go_simp
            try with_reducible rfl
          · rfl
          · exact fun _ _ _ h => h
          try simp only [Act.put, List.setIfInBounds_toArray, List.set_cons_zero, List.set_cons_succ]
          refine held_take (i := 8) (fuel := 9) (v := ?_) (by rw [List.getElem?_toArray]; rfl) (by kernel_rfl) (by kernel_rfl) (by kernel_rfl) hHeld ?_ ?_ ?_ ?_
          rotate_left
          · intro u hSw
            go_simp
            try with_reducible rfl
          · rfl
          · exact fun _ _ _ h => h
          try simp only [Act.put, List.setIfInBounds_toArray, List.set_cons_zero, List.set_cons_succ]
          refine held_take (i := 10) (fuel := 8) (v := ?_) (by rw [List.getElem?_toArray]; rfl) (by kernel_rfl) (by kernel_rfl) (by kernel_rfl) hHeld ?_ ?_ ?_ ?_
          rotate_left
          · intro u hSw
            go_simp
            try with_reducible rfl
          · rfl
          · exact fun _ _ _ h => h
          try simp only [Act.put, List.setIfInBounds_toArray, List.set_cons_zero, List.set_cons_succ]
          refine held_one (i := 9) (fuel := 7) (by kernel_rfl) (by rw [List.getElem?_toArray]; rfl) (fun K hK => ?_)
          go_simp
          refine (HB.out ys (fun b => b < Z.heap.size) _ ysA ysm ysc ((HSZ.out.1.below hHeld).more hHeld.size) (fun x hx => ((HSZ.out.2.1 x hx).below hHeld).more hHeld.size) (fun x hx => (HSZ.out.2.1 x hx).atB) (fun b h => Nat.lt_of_lt_of_le h hHeld.size) HSZ.out.2.2.2 (fun x hx => HQL.out _ (by rw [← HSZ.out.2.2.1]; exact List.mem_map.2 ⟨x, hx, rfl⟩))).mono ?_
          rintro f w7 ⟨zsA, zsm, zsc, zs, rfl, z1, z2, z3, z4, z5, z6, hb7⟩
          have HZS : Hid (RowS6 w7 w7.heap.size zsA zsm zs ∧ (∀ x ∈ zs, x.In w7 w7.heap.size) ∧ zs.map plS = q) := Lib.hid ⟨z1, z3, by rw [z5, HSZ.out.2.2.1, HQI.out hst]⟩
          clear z1 z2 z3 z4 z5 z6
          refine hK.out _ _ ?_ (fun hHeld => ?_)
          · exact hHeld.trans (hb7.mono hHeld.size)
          clear hK K
          try simp only [Act.put, List.setIfInBounds_toArray, List.set_cons_zero, List.set_cons_succ]
          clear hb7
          refine held_one (i := 11) (fuel := 6) (by kernel_rfl) (by rw [List.getElem?_toArray]; rfl) (fun K hK => ?_)
          go_simp
          have hs : sameSs zs ys = true := (sameSs_pl fun x _ => sameS_pl x).2 (by rw [HZS.out.2.2, HSZ.out.2.2.1])
          refine (tSameBlock_any zs ys zsA ysA zsm zsc ysm ysc _ HZS.out.1 (SL.Ins.of HZS.out.2.1) ((HSZ.out.1.below hHeld).more hHeld.size) (SL.Ins.of (fun x hx => ((HSZ.out.2.1 x hx).below hHeld).more hHeld.size))).mono ?_
          rw [hs]
          rintro f w8 ⟨rfl, hb8⟩
          clear hs
          refine hK.out _ _ ?_ (fun hHeld => ?_)
          · exact hHeld.trans (hb8.mono hHeld.size)
          clear hK K
          try simp only [Act.put, List.setIfInBounds_toArray, List.set_cons_zero, List.set_cons_succ]
          clear hb8
          refine held_take (i := 12) (fuel := 5) (v := ?_) (by rw [List.getElem?_toArray]; rfl) (by kernel_rfl) (by kernel_rfl) (by kernel_rfl) hHeld ?_ ?_ ?_ ?_
          rotate_left
          · intro u hSw
            go_simp
            try with_reducible rfl
          · rfl
          · exact fun _ _ _ h => h
          try simp only [Act.put, List.setIfInBounds_toArray, List.set_cons_zero, List.set_cons_succ]
          refine held_take (i := 13) (fuel := 4) (v := ?_) (by rw [List.getElem?_toArray]; rfl) (by kernel_rfl) (by kernel_rfl) (by kernel_rfl) hHeld ?_ ?_ ?_ ?_
          rotate_left
          · intro u hSw
            go_simp
            try with_reducible rfl
          · rfl
          · exact fun _ _ _ h => h
          try simp only [Act.put, List.setIfInBounds_toArray, List.set_cons_zero, List.set_cons_succ]
          refine held_take (i := 14) (fuel := 3) (v := ?_) (by rw [List.getElem?_toArray]; rfl) (by kernel_rfl) (by kernel_rfl) (by kernel_rfl) hHeld ?_ ?_ ?_ ?_
          rotate_left
          · intro u hSw
            go_simp
            try with_reducible rfl
          · rfl
          · exact fun _ _ _ h => h
          try simp only [Act.put, List.setIfInBounds_toArray, List.set_cons_zero, List.set_cons_succ]
          refine held_one (i := 15) (fuel := 2) (by kernel_rfl) (by rw [List.getElem?_toArray]; rfl) (fun K hK => ?_)
          go_simp
          refine (awake18_of HE.out HB.out _).mono ?_
          rintro f w9 ⟨rfl, hb9⟩
          refine hK.out _ _ ?_ (fun hHeld => ?_)
          · exact hHeld.trans (hb9.mono hHeld.size)
          clear hK K
          try simp only [Act.put, List.setIfInBounds_toArray, List.set_cons_zero, List.set_cons_succ]
          clear hb9
          refine held_take (i := 16) (fuel := 1) (v := ?_) (by rw [List.getElem?_toArray]; rfl) (by kernel_rfl) (by kernel_rfl) (by kernel_rfl) hHeld ?_ ?_ ?_ ?_
          rotate_left
          · intro u hSw
            go_simp
            try with_reducible rfl
          · rfl
          · exact fun _ _ _ h => h
          try simp only [Act.put, List.setIfInBounds_toArray, List.set_cons_zero, List.set_cons_succ]
          refine held_take (i := 17) (fuel := 0) (v := ?_) (by rw [List.getElem?_toArray]; rfl) (by kernel_rfl) (by kernel_rfl) (by kernel_rfl) hHeld ?_ ?_ ?_ ?_
          rotate_left
          · intro u hSw
            go_simp
            try with_reducible rfl
          · rfl
          · exact fun _ _ _ h => h
          try simp only [Act.put, List.setIfInBounds_toArray, List.set_cons_zero, List.set_cons_succ]
          refine wpAnyH_done (by kernel_rfl) ?_ _
          have HF := Lib.hid (HZX.out.trans (hHeld.mono HZX.out.size))
          go_wp2_with fail
          go_ret
          exact ⟨rfl, HF.out⟩
      refine AllReadyH.cons (by rw [List.getElem?_toArray]; rfl) (fun K hK => ?_) ?_
      ·
        go_simp
        refine hK.out _ _ ?_ (fun hHeld => ?_)
        · exact hHeld.alloc hHeld.size _
        clear hK K
        try simp only [Act.put, List.setIfInBounds_toArray, List.set_cons_zero, List.set_cons_succ]
        obtain ⟨wa, hwa⟩ : ∃ W, W = w2.alloc (.cells #[.int .i64 0, .int .i64 0, .int .i64 0, .string ⟨#[]⟩, .slice none 0 0] 31) := ⟨_, rfl⟩
        rw [← hwa] at hHeld
        rw [← hwa]
        have HKA : Hid (Blk wa w2.heap.size 31 #[.int .i64 0, .int .i64 0, .int .i64 0, .string ⟨#[]⟩, .slice none 0 0]) := Lib.hid (by rw [hwa]; exact Blk.new _ _ _)
        have HDA : Hid (Below w2.heap.size w2 wa) := Lib.hid (by rw [hwa]; exact (Below.refl _ _).alloc (Nat.le_refl _) _)
        have HSA : Hid (wa.heap.size = w2.heap.size + 1) := Lib.hid (by rw [hwa]; simp)
        clear hwa
        refine held_one (i := 5) (fuel := 2) (by kernel_rfl) (by rw [List.getElem?_toArray]; rfl) (fun K hK => ?_)
        go_simp
        refine (HB1.out _ (HX1.out.trans (hHeld.mono HX1.out.size))).mono ?_
        rintro f w3 ⟨ysA, ysm, ysc, ys, rfl, hy, hb3⟩
        have Hys := Lib.hid hy
        clear hy
        refine hK.out _ _ ?_ (fun hHeld => ?_)
        · exact hHeld.trans (hb3.mono hHeld.size)
        clear hK K
        try simp only [Act.put, List.setIfInBounds_toArray, List.set_cons_zero, List.set_cons_succ]
        have HD3 := Lib.hid hb3
        clear hb3
        refine held_one (i := 7) (fuel := 1) (by kernel_rfl) (by rw [List.getElem?_toArray]; rfl) (fun K hK => ?_)
        obtain ⟨g, hg⟩ : ∃ g, g = w2.heap.size := ⟨_, rfl⟩
        have hgw : w.heap.size ≤ g ∧ w1.heap.size ≤ g := by have := HX1.out.size; have := hHeld.size; have := HD2.out.size; have : w1.drew.heap.size = w1.heap.size := rfl; omega
        have hkl : Blk w3 g 31 #[.int .i64 0, .int .i64 0, .int .i64 0, .string ⟨#[]⟩, .slice none 0 0] := by rw [hg]; exact (HKA.out.below HD3.out HKA.out.lt)
        have hyl : y.In w3 w3.heap.size := ((((Hy.out.1.below HDA.out).more HDA.out.size).below HD3.out).more HD3.out.size)
        have hya : y.At (fun b => b ≠ g) := (Hy.out.2.1.and Hy.out.1.atB).mono (fun b hb => by have := HSA.out; have := HD3.out.size; have : w1.drew.heap.size = w1.heap.size := rfl; omega)
        have hsl : RowS6 w3 w3.heap.size ysA ysm ys := Hys.out.1
        have hsi : ∀ x ∈ ys, x.In w3 w3.heap.size := fun x hx => (Hys.out.2.1 x hx)
        have hsa : ∀ x ∈ ys, x.At (fun b => b ≠ g) := fun x hx => ((Hys.out.2.2.2.2.2 x hx).and (Hys.out.2.1 x hx).atB).mono (fun b hb => by have := HSA.out; have := HD2.out.size; have := HD3.out.size; have : w1.drew.heap.size = w1.heap.size := rfl; omega)
        have hsr : 0 < ysm → ∀ ad : Addr, ysA = some ad → ad.block ≠ g := fun hm ad e => by
          have h1 := (Hys.out.2.2.2.2.1.2 ad e).1
          obtain ⟨ad', e', h2, _⟩ := Hys.out.1.2.2 hm
          rw [e] at e'
          obtain rfl : ad = ad' := by injection e'
          have := HSA.out; have := HD2.out.size; have := HD3.out.size; have : w1.drew.heap.size = w1.heap.size := rfl; omega
        have hyp := Hy.out.2.2
        have hsp := Hys.out.2.2.1
        have hsm := Hys.out.2.2.2.1
        subst hg
        refine step_storeF (by rfl) 31 _ _ (by rfl) (w2.heap.size) (eCells y) (by rfl) (by rfl) 31 #[.int .i64 0, .int .i64 0, .int .i64 0, .string ⟨#[]⟩, .slice none 0 0] hkl expr_size rfl (expr_one _ _ _ _ _ _ _) ?_
        refine hK.out _ _ ?_ (fun hHeld => ?_)
        · exact below_setRow hHeld hgw.2 _
        clear hK K
        try simp only [Act.put, List.setIfInBounds_toArray, List.set_cons_zero, List.set_cons_succ]
        obtain ⟨Z, hZ⟩ : ∃ Z, Z = w3.setRow (w2.heap.size) (eCells y) := ⟨_, rfl⟩
        rw [← hZ] at hHeld
        rw [← hZ]
        have hk : ∀ p : Addr, p.block ≠ w2.heap.size → Z.cell? p = w3.cell? p := fun p hp => by rw [hZ]; exact cell_of_heap (setRow_other _ _ _ _ hp)
        have hzs : Z.heap.size = w3.heap.size := by rw [hZ]; simp
        have HKZ : Hid (Blk Z (w2.heap.size) 31 (eCells y)) := Lib.hid (by rw [hZ]; exact setRow_heap _ _ _ _ _ _ hkl)
        have HYZ : Hid (y.In Z Z.heap.size ∧ plE y = p) := Lib.hid ⟨hyl.keepS (S := fun b => b ≠ w2.heap.size) (by omega) (fun p hp _ => hk p hp) hya, hyp⟩
        have HSZ : Hid (RowS6 Z Z.heap.size ysA ysm ys ∧ (∀ x ∈ ys, x.In Z Z.heap.size) ∧ ys.map plS = q ∧ ysm * 104 ≤ 140737488355328) := Lib.hid ⟨hsl.keepS (S := fun b => b ≠ w2.heap.size) hsr (by omega) (fun p hp _ => hk p hp), fun x hx => (hsi x hx).keepS (S := fun b => b ≠ w2.heap.size) (by omega) (fun p hp _ => hk p hp) (hsa x hx), hsp, hsm⟩
        have HZX : Hid (Below w.heap.size w Z) := Lib.hid (HX1.out.trans (hHeld.mono HX1.out.size))
        clear hk hzs hZ hyl hya hsl hsi hsa hsr hyp hsp hsm hkl hgw
        obtain ⟨yk, yo, ym, yS, yA, yn, yc, yes⟩ := y
        have hcz : Hid (∀ u : World, Below Z.heap.size Z u → u.cell? ⟨w2.heap.size, 0, none⟩ = some (.int .i64 yk) ∧ u.cell? ⟨w2.heap.size, 1, none⟩ = some (.int .i64 yo) ∧ u.cell? ⟨w2.heap.size, 2, none⟩ = some (.int .i64 ym) ∧ u.cell? ⟨w2.heap.size, 3, none⟩ = some (.string (bs yS)) ∧ u.cell? ⟨w2.heap.size, 4, none⟩ = some (.slice yA yn yc)) := Lib.hid (fun u hb => by
          have hk2 := HKZ.out.below hb HKZ.out.lt
          exact ⟨hk2.cell 0, hk2.cell 1, hk2.cell 2, hk2.cell 3, hk2.cell 4⟩)
        refine held_take (i := 8) (fuel := 0) (v := ?_) (by rw [List.getElem?_toArray]; rfl) (by kernel_rfl) (by kernel_rfl) (by kernel_rfl) hHeld ?_ ?_ ?_ ?_
        rotate_left
        · intro u hSw
          go_simp
          try with_reducible rfl
        · rfl
        · exact fun _ _ _ h => h
        try simp only [Act.put, List.setIfInBounds_toArray, List.set_cons_zero, List.set_cons_succ]
        refine wpAnyH_done (by kernel_rfl) ?_ _
        go_wp2_with fail
        clear hHeld
        by_cases hst : staysPs q
        · skip
          refine wp_region_held_drew (S := Below Z.heap.size Z) (by kernel_rfl) (Below.refl _ _).drew (fun hHeld => ?_)
          refine held_take (i := 0) (fuel := 17) (v := ?_) (by rw [List.getElem?_toArray]; rfl) (by kernel_rfl) (by kernel_rfl) (by kernel_rfl) hHeld ?_ ?_ ?_ ?_
          rotate_left
          · intro u hSw
            obtain ⟨c0, c1, c2, c3, c4⟩ := hcz.out u hSw
            go_simp
            try with_reducible rfl
          · rfl
          · exact fun _ _ _ h => h
          try simp only [Act.put, List.setIfInBounds_toArray, List.set_cons_zero, List.set_cons_succ]
          refine held_take (i := 2) (fuel := 16) (v := ?_) (by rw [List.getElem?_toArray]; rfl) (by kernel_rfl) (by kernel_rfl) (by kernel_rfl) hHeld ?_ ?_ ?_ ?_
          rotate_left
          · intro u hSw
            obtain ⟨c0, c1, c2, c3, c4⟩ := hcz.out u hSw
            go_simp
            try with_reducible rfl
          · rfl
          · exact fun _ _ _ h => h
          try simp only [Act.put, List.setIfInBounds_toArray, List.set_cons_zero, List.set_cons_succ]
          refine held_one (i := 1) (fuel := 15) (by kernel_rfl) (by rw [List.getElem?_toArray]; rfl) (fun K hK => ?_)
          go_simp
          refine (HE.out (EL.mk yk yo ym yS yA yn yc yes) (fun b => b < Z.heap.size) _ ((HYZ.out.1.below hHeld).more hHeld.size) HYZ.out.1.atB (by rw [HYZ.out.2]; exact HPL.out)).mono ?_
          rintro f w4 ⟨z, rfl, z1, z2, z3, hb4⟩
          have HZI : Hid (z.In w4 w4.heap.size ∧ plE z = p) := Lib.hid ⟨z1, by rw [z3, HYZ.out.2, HPI.out]⟩
          clear z1 z2 z3
          refine hK.out _ _ ?_ (fun hHeld => ?_)
          · exact hHeld.trans (hb4.mono hHeld.size)
          clear hK K
          try simp only [Act.put, List.setIfInBounds_toArray, List.set_cons_zero, List.set_cons_succ]
          clear hb4
          refine held_one (i := 3) (fuel := 14) (by kernel_rfl) (by rw [List.getElem?_toArray]; rfl) (fun K hK => ?_)
          go_simp
          have hs : sameE z (EL.mk yk yo ym yS yA yn yc yes) = true := (sameE_pl _ _).2 (by rw [HZI.out.2, HYZ.out.2])
          refine (tSame_any z (EL.mk yk yo ym yS yA yn yc yes) _ HZI.out.1 ((HYZ.out.1.below hHeld).more hHeld.size)).mono ?_
          rw [hs]
          rintro f w5 ⟨rfl, hb5⟩
          clear hs
          refine hK.out _ _ ?_ (fun hHeld => ?_)
          · exact hHeld.trans (hb5.mono hHeld.size)
          clear hK K
          try simp only [Act.put, List.setIfInBounds_toArray, List.set_cons_zero, List.set_cons_succ]
          clear hb5
          refine held_take (i := 4) (fuel := 13) (v := ?_) (by rw [List.getElem?_toArray]; rfl) (by kernel_rfl) (by kernel_rfl) (by kernel_rfl) hHeld ?_ ?_ ?_ ?_
          rotate_left
          · intro u hSw
            go_simp
            try with_reducible rfl
          · rfl
          · exact fun _ _ _ h => h
          try simp only [Act.put, List.setIfInBounds_toArray, List.set_cons_zero, List.set_cons_succ]
          refine held_take (i := 5) (fuel := 12) (v := ?_) (by rw [List.getElem?_toArray]; rfl) (by kernel_rfl) (by kernel_rfl) (by kernel_rfl) hHeld ?_ ?_ ?_ ?_
          rotate_left
          · intro u hSw
            go_simp
            try with_reducible rfl
          · rfl
          · exact fun _ _ _ h => h
          try simp only [Act.put, List.setIfInBounds_toArray, List.set_cons_zero, List.set_cons_succ]
          refine held_one (i := 6) (fuel := 11) (by kernel_rfl) (by rw [List.getElem?_toArray]; rfl) (fun K hK => ?_)
          go_simp
          refine (stays18_any ys _ ysA ysm ysc ((HSZ.out.1.below hHeld).more hHeld.size) (fun x hx => ((HSZ.out.2.1 x hx).below hHeld).more hHeld.size)).mono ?_
          rintro f w6 ⟨b, rfl, hb, hb6⟩
          obtain rfl : b = true := hb.2 (by rw [HSZ.out.2.2.1]; exact hst)
          refine hK.out _ _ ?_ (fun hHeld => ?_)
          · exact hHeld.trans (hb6.mono hHeld.size)
          clear hK K
          try simp only [Act.put, List.setIfInBounds_toArray, List.set_cons_zero, List.set_cons_succ]
          clear hb6 hb
          refine held_take (i := 7) (fuel := 10) (v := ?_) (by rw [List.getElem?_toArray]; rfl) (by kernel_rfl) (by kernel_rfl) (by kernel_rfl) hHeld ?_ ?_ ?_ ?_
          rotate_left
          · intro u hSw
            go_simp
            try with_reducible rfl
          · rfl
          · exact fun _ _ _ h => h
          try simp only [Act.put, List.setIfInBounds_toArray, List.set_cons_zero, List.set_cons_succ]
          refine held_skip (i := 8) (fuel := 9) (by rw [List.getElem?_toArray]; rfl) (by kernel_rfl) (by kernel_rfl) (by kernel_rfl) hHeld ?_ ?_ ?_
          · rfl
          · exact fun _ _ _ h => h
          try simp only [Act.put, List.setIfInBounds_toArray, List.set_cons_zero, List.set_cons_succ]
          refine held_skip (i := 9) (fuel := 8) (by rw [List.getElem?_toArray]; rfl) (by kernel_rfl) (by kernel_rfl) (by kernel_rfl) hHeld ?_ ?_ ?_
          · rfl
          · exact fun _ _ _ h => h
          try simp only [Act.put, List.setIfInBounds_toArray, List.set_cons_zero, List.set_cons_succ]
          refine held_skip (i := 10) (fuel := 7) (by rw [List.getElem?_toArray]; rfl) (by kernel_rfl) (by kernel_rfl) (by kernel_rfl) hHeld ?_ ?_ ?_
          · rfl
          · exact fun _ _ _ h => h
          try simp only [Act.put, List.setIfInBounds_toArray, List.set_cons_zero, List.set_cons_succ]
          refine held_skip (i := 11) (fuel := 6) (by rw [List.getElem?_toArray]; rfl) (by kernel_rfl) (by kernel_rfl) (by kernel_rfl) hHeld ?_ ?_ ?_
          · rfl
          · exact fun _ _ _ h => h
          try simp only [Act.put, List.setIfInBounds_toArray, List.set_cons_zero, List.set_cons_succ]
          refine held_take (i := 12) (fuel := 5) (v := ?_) (by rw [List.getElem?_toArray]; rfl) (by kernel_rfl) (by kernel_rfl) (by kernel_rfl) hHeld ?_ ?_ ?_ ?_
          rotate_left
          · intro u hSw
            go_simp
            try with_reducible rfl
          · rfl
          · exact fun _ _ _ h => h
          try simp only [Act.put, List.setIfInBounds_toArray, List.set_cons_zero, List.set_cons_succ]
          refine held_take (i := 13) (fuel := 4) (v := ?_) (by rw [List.getElem?_toArray]; rfl) (by kernel_rfl) (by kernel_rfl) (by kernel_rfl) hHeld ?_ ?_ ?_ ?_
          rotate_left
          · intro u hSw
            go_simp
            try with_reducible rfl
          · rfl
          · exact fun _ _ _ h => h
          try simp only [Act.put, List.setIfInBounds_toArray, List.set_cons_zero, List.set_cons_succ]
          refine held_take (i := 14) (fuel := 3) (v := ?_) (by rw [List.getElem?_toArray]; rfl) (by kernel_rfl) (by kernel_rfl) (by kernel_rfl) hHeld ?_ ?_ ?_ ?_
          rotate_left
          · intro u hSw
            go_simp
            try with_reducible rfl
          · rfl
          · exact fun _ _ _ h => h
          try simp only [Act.put, List.setIfInBounds_toArray, List.set_cons_zero, List.set_cons_succ]
          refine held_one (i := 15) (fuel := 2) (by kernel_rfl) (by rw [List.getElem?_toArray]; rfl) (fun K hK => ?_)
          go_simp
          refine (awake18_of HE.out HB.out _).mono ?_
          rintro f w9 ⟨rfl, hb9⟩
          refine hK.out _ _ ?_ (fun hHeld => ?_)
          · exact hHeld.trans (hb9.mono hHeld.size)
          clear hK K
          try simp only [Act.put, List.setIfInBounds_toArray, List.set_cons_zero, List.set_cons_succ]
          clear hb9
          refine held_take (i := 16) (fuel := 1) (v := ?_) (by rw [List.getElem?_toArray]; rfl) (by kernel_rfl) (by kernel_rfl) (by kernel_rfl) hHeld ?_ ?_ ?_ ?_
          rotate_left
          · intro u hSw
            go_simp
            try with_reducible rfl
          · rfl
          · exact fun _ _ _ h => h
          try simp only [Act.put, List.setIfInBounds_toArray, List.set_cons_zero, List.set_cons_succ]
          refine held_take (i := 17) (fuel := 0) (v := ?_) (by rw [List.getElem?_toArray]; rfl) (by kernel_rfl) (by kernel_rfl) (by kernel_rfl) hHeld ?_ ?_ ?_ ?_
          rotate_left
          · intro u hSw
            go_simp
            try with_reducible rfl
          · rfl
          · exact fun _ _ _ h => h
          try simp only [Act.put, List.setIfInBounds_toArray, List.set_cons_zero, List.set_cons_succ]
          refine wpAnyH_done (by kernel_rfl) ?_ _
          have HF := Lib.hid (HZX.out.trans (hHeld.mono HZX.out.size))
          go_wp2_with fail
          go_ret
          exact ⟨rfl, HF.out⟩
        · skip
          refine wp_region_held_drew (S := Below Z.heap.size Z) (by kernel_rfl) (Below.refl _ _).drew (fun hHeld => ?_)
          refine held_take (i := 0) (fuel := 17) (v := ?_) (by rw [List.getElem?_toArray]; rfl) (by kernel_rfl) (by kernel_rfl) (by kernel_rfl) hHeld ?_ ?_ ?_ ?_
          rotate_left
          · intro u hSw
            obtain ⟨c0, c1, c2, c3, c4⟩ := hcz.out u hSw
            go_simp
            try with_reducible rfl
          · rfl
          · exact fun _ _ _ h => h
          try simp only [Act.put, List.setIfInBounds_toArray, List.set_cons_zero, List.set_cons_succ]
          refine held_take (i := 2) (fuel := 16) (v := ?_) (by rw [List.getElem?_toArray]; rfl) (by kernel_rfl) (by kernel_rfl) (by kernel_rfl) hHeld ?_ ?_ ?_ ?_
          rotate_left
          · intro u hSw
            obtain ⟨c0, c1, c2, c3, c4⟩ := hcz.out u hSw
            go_simp
            try with_reducible rfl
          · rfl
          · exact fun _ _ _ h => h
          try simp only [Act.put, List.setIfInBounds_toArray, List.set_cons_zero, List.set_cons_succ]
          refine held_one (i := 1) (fuel := 15) (by kernel_rfl) (by rw [List.getElem?_toArray]; rfl) (fun K hK => ?_)
          go_simp
          refine (HE.out (EL.mk yk yo ym yS yA yn yc yes) (fun b => b < Z.heap.size) _ ((HYZ.out.1.below hHeld).more hHeld.size) HYZ.out.1.atB (by rw [HYZ.out.2]; exact HPL.out)).mono ?_
          rintro f w4 ⟨z, rfl, z1, z2, z3, hb4⟩
          have HZI : Hid (z.In w4 w4.heap.size ∧ plE z = p) := Lib.hid ⟨z1, by rw [z3, HYZ.out.2, HPI.out]⟩
          clear z1 z2 z3
          refine hK.out _ _ ?_ (fun hHeld => ?_)
          · exact hHeld.trans (hb4.mono hHeld.size)
          clear hK K
          try simp only [Act.put, List.setIfInBounds_toArray, List.set_cons_zero, List.set_cons_succ]
          clear hb4
          refine held_one (i := 3) (fuel := 14) (by kernel_rfl) (by rw [List.getElem?_toArray]; rfl) (fun K hK => ?_)
          go_simp
          have hs : sameE z (EL.mk yk yo ym yS yA yn yc yes) = true := (sameE_pl _ _).2 (by rw [HZI.out.2, HYZ.out.2])
          refine (tSame_any z (EL.mk yk yo ym yS yA yn yc yes) _ HZI.out.1 ((HYZ.out.1.below hHeld).more hHeld.size)).mono ?_
          rw [hs]
          rintro f w5 ⟨rfl, hb5⟩
          clear hs
          refine hK.out _ _ ?_ (fun hHeld => ?_)
          · exact hHeld.trans (hb5.mono hHeld.size)
          clear hK K
          try simp only [Act.put, List.setIfInBounds_toArray, List.set_cons_zero, List.set_cons_succ]
          clear hb5
          refine held_take (i := 4) (fuel := 13) (v := ?_) (by rw [List.getElem?_toArray]; rfl) (by kernel_rfl) (by kernel_rfl) (by kernel_rfl) hHeld ?_ ?_ ?_ ?_
          rotate_left
          · intro u hSw
            go_simp
            try with_reducible rfl
          · rfl
          · exact fun _ _ _ h => h
          try simp only [Act.put, List.setIfInBounds_toArray, List.set_cons_zero, List.set_cons_succ]
          refine held_take (i := 5) (fuel := 12) (v := ?_) (by rw [List.getElem?_toArray]; rfl) (by kernel_rfl) (by kernel_rfl) (by kernel_rfl) hHeld ?_ ?_ ?_ ?_
          rotate_left
          · intro u hSw
            go_simp
            try with_reducible rfl
          · rfl
          · exact fun _ _ _ h => h
          try simp only [Act.put, List.setIfInBounds_toArray, List.set_cons_zero, List.set_cons_succ]
          refine held_one (i := 6) (fuel := 11) (by kernel_rfl) (by rw [List.getElem?_toArray]; rfl) (fun K hK => ?_)
          go_simp
          refine (stays18_any ys _ ysA ysm ysc ((HSZ.out.1.below hHeld).more hHeld.size) (fun x hx => ((HSZ.out.2.1 x hx).below hHeld).more hHeld.size)).mono ?_
          rintro f w6 ⟨b, rfl, hb, hb6⟩
          obtain rfl : b = false := by
            cases b with
            | false => rfl
            | true => exact absurd (by rw [← HSZ.out.2.2.1]; exact hb.1 rfl) hst
          refine hK.out _ _ ?_ (fun hHeld => ?_)
          · exact hHeld.trans (hb6.mono hHeld.size)
          clear hK K
          try simp only [Act.put, List.setIfInBounds_toArray, List.set_cons_zero, List.set_cons_succ]
          clear hb6 hb
          refine held_take (i := 7) (fuel := 10) (v := ?_) (by rw [List.getElem?_toArray]; rfl) (by kernel_rfl) (by kernel_rfl) (by kernel_rfl) hHeld ?_ ?_ ?_ ?_
          rotate_left
          · intro u hSw
            go_simp
            try with_reducible rfl
          · rfl
          · exact fun _ _ _ h => h
          try simp only [Act.put, List.setIfInBounds_toArray, List.set_cons_zero, List.set_cons_succ]
          refine held_take (i := 8) (fuel := 9) (v := ?_) (by rw [List.getElem?_toArray]; rfl) (by kernel_rfl) (by kernel_rfl) (by kernel_rfl) hHeld ?_ ?_ ?_ ?_
          rotate_left
          · intro u hSw
            go_simp
            try with_reducible rfl
          · rfl
          · exact fun _ _ _ h => h
          try simp only [Act.put, List.setIfInBounds_toArray, List.set_cons_zero, List.set_cons_succ]
          refine held_take (i := 10) (fuel := 8) (v := ?_) (by rw [List.getElem?_toArray]; rfl) (by kernel_rfl) (by kernel_rfl) (by kernel_rfl) hHeld ?_ ?_ ?_ ?_
          rotate_left
          · intro u hSw
            go_simp
            try with_reducible rfl
          · rfl
          · exact fun _ _ _ h => h
          try simp only [Act.put, List.setIfInBounds_toArray, List.set_cons_zero, List.set_cons_succ]
          refine held_one (i := 9) (fuel := 7) (by kernel_rfl) (by rw [List.getElem?_toArray]; rfl) (fun K hK => ?_)
          go_simp
          refine (HB.out ys (fun b => b < Z.heap.size) _ ysA ysm ysc ((HSZ.out.1.below hHeld).more hHeld.size) (fun x hx => ((HSZ.out.2.1 x hx).below hHeld).more hHeld.size) (fun x hx => (HSZ.out.2.1 x hx).atB) (fun b h => Nat.lt_of_lt_of_le h hHeld.size) HSZ.out.2.2.2 (fun x hx => HQL.out _ (by rw [← HSZ.out.2.2.1]; exact List.mem_map.2 ⟨x, hx, rfl⟩))).mono ?_
          rintro f w7 ⟨zsA, zsm, zsc, zs, rfl, z1, z2, z3, z4, z5, z6, hb7⟩
          have HZS : Hid (RowS6 w7 w7.heap.size zsA zsm zs ∧ (∀ x ∈ zs, x.In w7 w7.heap.size) ∧ zs.map plS = q) := Lib.hid ⟨z1, z3, by rw [z5, HSZ.out.2.2.1, HQI.out hst]⟩
          clear z1 z2 z3 z4 z5 z6
          refine hK.out _ _ ?_ (fun hHeld => ?_)
          · exact hHeld.trans (hb7.mono hHeld.size)
          clear hK K
          try simp only [Act.put, List.setIfInBounds_toArray, List.set_cons_zero, List.set_cons_succ]
          clear hb7
          refine held_one (i := 11) (fuel := 6) (by kernel_rfl) (by rw [List.getElem?_toArray]; rfl) (fun K hK => ?_)
          go_simp
          have hs : sameSs zs ys = true := (sameSs_pl fun x _ => sameS_pl x).2 (by rw [HZS.out.2.2, HSZ.out.2.2.1])
          refine (tSameBlock_any zs ys zsA ysA zsm zsc ysm ysc _ HZS.out.1 (SL.Ins.of HZS.out.2.1) ((HSZ.out.1.below hHeld).more hHeld.size) (SL.Ins.of (fun x hx => ((HSZ.out.2.1 x hx).below hHeld).more hHeld.size))).mono ?_
          rw [hs]
          rintro f w8 ⟨rfl, hb8⟩
          clear hs
          refine hK.out _ _ ?_ (fun hHeld => ?_)
          · exact hHeld.trans (hb8.mono hHeld.size)
          clear hK K
          try simp only [Act.put, List.setIfInBounds_toArray, List.set_cons_zero, List.set_cons_succ]
          clear hb8
          refine held_take (i := 12) (fuel := 5) (v := ?_) (by rw [List.getElem?_toArray]; rfl) (by kernel_rfl) (by kernel_rfl) (by kernel_rfl) hHeld ?_ ?_ ?_ ?_
          rotate_left
          · intro u hSw
            go_simp
            try with_reducible rfl
          · rfl
          · exact fun _ _ _ h => h
          try simp only [Act.put, List.setIfInBounds_toArray, List.set_cons_zero, List.set_cons_succ]
          refine held_take (i := 13) (fuel := 4) (v := ?_) (by rw [List.getElem?_toArray]; rfl) (by kernel_rfl) (by kernel_rfl) (by kernel_rfl) hHeld ?_ ?_ ?_ ?_
          rotate_left
          · intro u hSw
            go_simp
            try with_reducible rfl
          · rfl
          · exact fun _ _ _ h => h
          try simp only [Act.put, List.setIfInBounds_toArray, List.set_cons_zero, List.set_cons_succ]
          refine held_take (i := 14) (fuel := 3) (v := ?_) (by rw [List.getElem?_toArray]; rfl) (by kernel_rfl) (by kernel_rfl) (by kernel_rfl) hHeld ?_ ?_ ?_ ?_
          rotate_left
          · intro u hSw
            go_simp
            try with_reducible rfl
          · rfl
          · exact fun _ _ _ h => h
          try simp only [Act.put, List.setIfInBounds_toArray, List.set_cons_zero, List.set_cons_succ]
          refine held_one (i := 15) (fuel := 2) (by kernel_rfl) (by rw [List.getElem?_toArray]; rfl) (fun K hK => ?_)
          go_simp
          refine (awake18_of HE.out HB.out _).mono ?_
          rintro f w9 ⟨rfl, hb9⟩
          refine hK.out _ _ ?_ (fun hHeld => ?_)
          · exact hHeld.trans (hb9.mono hHeld.size)
          clear hK K
          try simp only [Act.put, List.setIfInBounds_toArray, List.set_cons_zero, List.set_cons_succ]
          clear hb9
          refine held_take (i := 16) (fuel := 1) (v := ?_) (by rw [List.getElem?_toArray]; rfl) (by kernel_rfl) (by kernel_rfl) (by kernel_rfl) hHeld ?_ ?_ ?_ ?_
          rotate_left
          · intro u hSw
            go_simp
            try with_reducible rfl
          · rfl
          · exact fun _ _ _ h => h
          try simp only [Act.put, List.setIfInBounds_toArray, List.set_cons_zero, List.set_cons_succ]
          refine held_take (i := 17) (fuel := 0) (v := ?_) (by rw [List.getElem?_toArray]; rfl) (by kernel_rfl) (by kernel_rfl) (by kernel_rfl) hHeld ?_ ?_ ?_ ?_
          rotate_left
          · intro u hSw
            go_simp
            try with_reducible rfl
          · rfl
          · exact fun _ _ _ h => h
          try simp only [Act.put, List.setIfInBounds_toArray, List.set_cons_zero, List.set_cons_succ]
          refine wpAnyH_done (by kernel_rfl) ?_ _
          have HF := Lib.hid (HZX.out.trans (hHeld.mono HZX.out.size))
          go_wp2_with fail
          go_ret
          exact ⟨rfl, HF.out⟩
      exact AllReadyH.nil
    refine AllReadyH.cons (by rw [List.getElem?_toArray]; rfl) (fun K hK => ?_) ?_
    ·
      go_simp
      refine hK.out _ _ ?_ (fun hHeld => ?_)
      · exact hHeld.alloc hHeld.size _
      clear hK K
      try simp only [Act.put, List.setIfInBounds_toArray, List.set_cons_zero, List.set_cons_succ]
      obtain ⟨wa, hwa⟩ : ∃ W, W = (w1.alloc (.cells #[.int .i64 0, .int .i64 0, .int .i64 0, .string ⟨#[]⟩, .slice none 0 0] 31)).drew := ⟨_, rfl⟩
      rw [← hwa] at hHeld
      rw [← hwa]
      have HKA : Hid (Blk wa w1.heap.size 31 #[.int .i64 0, .int .i64 0, .int .i64 0, .string ⟨#[]⟩, .slice none 0 0]) := Lib.hid (by rw [hwa]; exact Blk.new w1 _ _)
      have HSA : Hid (wa.heap.size = w1.heap.size + 1) := Lib.hid (by rw [hwa]; show (w1.alloc _).heap.size = _; simp)
      clear hwa
      refine held_one (i := 2) (fuel := 3) (by kernel_rfl) (by rw [List.getElem?_toArray]; rfl) (fun K hK => ?_)
      go_simp
      refine (HE1.out _ (HX1.out.trans (hHeld.mono HX1.out.size))).mono ?_
      rintro f w2 ⟨y, rfl, hy, hb2⟩
      have Hy := Lib.hid hy
      clear hy
      refine hK.out _ _ ?_ (fun hHeld => ?_)
      · exact hHeld.trans (hb2.mono hHeld.size)
      clear hK K
      try simp only [Act.put, List.setIfInBounds_toArray, List.set_cons_zero, List.set_cons_succ]
      have HD2 := Lib.hid hb2
      clear hb2
      refine held_one (i := 5) (fuel := 2) (by kernel_rfl) (by rw [List.getElem?_toArray]; rfl) (fun K hK => ?_)
      go_simp
      refine (HB1.out _ (HX1.out.trans (hHeld.mono HX1.out.size))).mono ?_
      rintro f w3 ⟨ysA, ysm, ysc, ys, rfl, hy, hb3⟩
      have Hys := Lib.hid hy
      clear hy
      refine hK.out _ _ ?_ (fun hHeld => ?_)
      · exact hHeld.trans (hb3.mono hHeld.size)
      clear hK K
      try simp only [Act.put, List.setIfInBounds_toArray, List.set_cons_zero, List.set_cons_succ]
      have HD3 := Lib.hid hb3
      clear hb3
      refine held_one (i := 7) (fuel := 1) (by kernel_rfl) (by rw [List.getElem?_toArray]; rfl) (fun K hK => ?_)
      obtain ⟨g, hg⟩ : ∃ g, g = w1.heap.size := ⟨_, rfl⟩
      have hgw : w.heap.size ≤ g ∧ w1.heap.size ≤ g := by have := HX1.out.size; have := hHeld.size; have : w1.drew.heap.size = w1.heap.size := rfl; omega
      have hkl : Blk w3 g 31 #[.int .i64 0, .int .i64 0, .int .i64 0, .string ⟨#[]⟩, .slice none 0 0] := by rw [hg]; exact ((HKA.out.below HD2.out HKA.out.lt).below HD3.out (HKA.out.below HD2.out HKA.out.lt).lt)
      have hyl : y.In w3 w3.heap.size := ((Hy.out.1.below HD3.out).more HD3.out.size)
      have hya : y.At (fun b => b ≠ g) := (Hy.out.2.1.and Hy.out.1.atB).mono (fun b hb => by have := HSA.out; have := HD2.out.size; have := HD3.out.size; have : w1.drew.heap.size = w1.heap.size := rfl; omega)
      have hsl : RowS6 w3 w3.heap.size ysA ysm ys := Hys.out.1
      have hsi : ∀ x ∈ ys, x.In w3 w3.heap.size := fun x hx => (Hys.out.2.1 x hx)
      have hsa : ∀ x ∈ ys, x.At (fun b => b ≠ g) := fun x hx => ((Hys.out.2.2.2.2.2 x hx).and (Hys.out.2.1 x hx).atB).mono (fun b hb => by have := HSA.out; have := HD2.out.size; have := HD3.out.size; have : w1.drew.heap.size = w1.heap.size := rfl; omega)
      have hsr : 0 < ysm → ∀ ad : Addr, ysA = some ad → ad.block ≠ g := fun hm ad e => by
        have h1 := (Hys.out.2.2.2.2.1.2 ad e).1
        obtain ⟨ad', e', h2, _⟩ := Hys.out.1.2.2 hm
        rw [e] at e'
        obtain rfl : ad = ad' := by injection e'
        have := HSA.out; have := HD2.out.size; have := HD3.out.size; have : w1.drew.heap.size = w1.heap.size := rfl; omega
      have hyp := Hy.out.2.2
      have hsp := Hys.out.2.2.1
      have hsm := Hys.out.2.2.2.1
      subst hg
      refine step_storeF (by rfl) 31 _ _ (by rfl) (w1.heap.size) (eCells y) (by rfl) (by rfl) 31 #[.int .i64 0, .int .i64 0, .int .i64 0, .string ⟨#[]⟩, .slice none 0 0] hkl expr_size rfl (expr_one _ _ _ _ _ _ _) ?_
      refine hK.out _ _ ?_ (fun hHeld => ?_)
      · exact below_setRow hHeld hgw.2 _
      clear hK K
      try simp only [Act.put, List.setIfInBounds_toArray, List.set_cons_zero, List.set_cons_succ]
      obtain ⟨Z, hZ⟩ : ∃ Z, Z = w3.setRow (w1.heap.size) (eCells y) := ⟨_, rfl⟩
      rw [← hZ] at hHeld
      rw [← hZ]
      have hk : ∀ p : Addr, p.block ≠ w1.heap.size → Z.cell? p = w3.cell? p := fun p hp => by rw [hZ]; exact cell_of_heap (setRow_other _ _ _ _ hp)
      have hzs : Z.heap.size = w3.heap.size := by rw [hZ]; simp
      have HKZ : Hid (Blk Z (w1.heap.size) 31 (eCells y)) := Lib.hid (by rw [hZ]; exact setRow_heap _ _ _ _ _ _ hkl)
      have HYZ : Hid (y.In Z Z.heap.size ∧ plE y = p) := Lib.hid ⟨hyl.keepS (S := fun b => b ≠ w1.heap.size) (by omega) (fun p hp _ => hk p hp) hya, hyp⟩
      have HSZ : Hid (RowS6 Z Z.heap.size ysA ysm ys ∧ (∀ x ∈ ys, x.In Z Z.heap.size) ∧ ys.map plS = q ∧ ysm * 104 ≤ 140737488355328) := Lib.hid ⟨hsl.keepS (S := fun b => b ≠ w1.heap.size) hsr (by omega) (fun p hp _ => hk p hp), fun x hx => (hsi x hx).keepS (S := fun b => b ≠ w1.heap.size) (by omega) (fun p hp _ => hk p hp) (hsa x hx), hsp, hsm⟩
      have HZX : Hid (Below w.heap.size w Z) := Lib.hid (HX1.out.trans (hHeld.mono HX1.out.size))
      clear hk hzs hZ hyl hya hsl hsi hsa hsr hyp hsp hsm hkl hgw
      obtain ⟨yk, yo, ym, yS, yA, yn, yc, yes⟩ := y
      have hcz : Hid (∀ u : World, Below Z.heap.size Z u → u.cell? ⟨w1.heap.size, 0, none⟩ = some (.int .i64 yk) ∧ u.cell? ⟨w1.heap.size, 1, none⟩ = some (.int .i64 yo) ∧ u.cell? ⟨w1.heap.size, 2, none⟩ = some (.int .i64 ym) ∧ u.cell? ⟨w1.heap.size, 3, none⟩ = some (.string (bs yS)) ∧ u.cell? ⟨w1.heap.size, 4, none⟩ = some (.slice yA yn yc)) := Lib.hid (fun u hb => by
        have hk2 := HKZ.out.below hb HKZ.out.lt
        exact ⟨hk2.cell 0, hk2.cell 1, hk2.cell 2, hk2.cell 3, hk2.cell 4⟩)
      refine held_take (i := 8) (fuel := 0) (v := ?_) (by rw [List.getElem?_toArray]; rfl) (by kernel_rfl) (by kernel_rfl) (by kernel_rfl) hHeld ?_ ?_ ?_ ?_
      rotate_left
      · intro u hSw
        go_simp
        try with_reducible rfl
      · rfl
      · exact fun _ _ _ h => h
      try simp only [Act.put, List.setIfInBounds_toArray, List.set_cons_zero, List.set_cons_succ]
      refine wpAnyH_done (by kernel_rfl) ?_ _
      go_wp2_with fail
      clear hHeld
      by_cases hst : staysPs q
      · skip
        refine wp_region_held_drew (S := Below Z.heap.size Z) (by kernel_rfl) (Below.refl _ _).drew (fun hHeld => ?_)
        refine held_take (i := 0) (fuel := 17) (v := ?_) (by rw [List.getElem?_toArray]; rfl) (by kernel_rfl) (by kernel_rfl) (by kernel_rfl) hHeld ?_ ?_ ?_ ?_
        rotate_left
        · intro u hSw
          obtain ⟨c0, c1, c2, c3, c4⟩ := hcz.out u hSw
          go_simp
          try with_reducible rfl
        · rfl
        · exact fun _ _ _ h => h
        try simp only [Act.put, List.setIfInBounds_toArray, List.set_cons_zero, List.set_cons_succ]
        refine held_take (i := 2) (fuel := 16) (v := ?_) (by rw [List.getElem?_toArray]; rfl) (by kernel_rfl) (by kernel_rfl) (by kernel_rfl) hHeld ?_ ?_ ?_ ?_
        rotate_left
        · intro u hSw
          obtain ⟨c0, c1, c2, c3, c4⟩ := hcz.out u hSw
          go_simp
          try with_reducible rfl
        · rfl
        · exact fun _ _ _ h => h
        try simp only [Act.put, List.setIfInBounds_toArray, List.set_cons_zero, List.set_cons_succ]
        refine held_one (i := 1) (fuel := 15) (by kernel_rfl) (by rw [List.getElem?_toArray]; rfl) (fun K hK => ?_)
        go_simp
        refine (HE.out (EL.mk yk yo ym yS yA yn yc yes) (fun b => b < Z.heap.size) _ ((HYZ.out.1.below hHeld).more hHeld.size) HYZ.out.1.atB (by rw [HYZ.out.2]; exact HPL.out)).mono ?_
        rintro f w4 ⟨z, rfl, z1, z2, z3, hb4⟩
        have HZI : Hid (z.In w4 w4.heap.size ∧ plE z = p) := Lib.hid ⟨z1, by rw [z3, HYZ.out.2, HPI.out]⟩
        clear z1 z2 z3
        refine hK.out _ _ ?_ (fun hHeld => ?_)
        · exact hHeld.trans (hb4.mono hHeld.size)
        clear hK K
        try simp only [Act.put, List.setIfInBounds_toArray, List.set_cons_zero, List.set_cons_succ]
        clear hb4
        refine held_one (i := 3) (fuel := 14) (by kernel_rfl) (by rw [List.getElem?_toArray]; rfl) (fun K hK => ?_)
        go_simp
        have hs : sameE z (EL.mk yk yo ym yS yA yn yc yes) = true := (sameE_pl _ _).2 (by rw [HZI.out.2, HYZ.out.2])
        refine (tSame_any z (EL.mk yk yo ym yS yA yn yc yes) _ HZI.out.1 ((HYZ.out.1.below hHeld).more hHeld.size)).mono ?_
        rw [hs]
        rintro f w5 ⟨rfl, hb5⟩
        clear hs
        refine hK.out _ _ ?_ (fun hHeld => ?_)
        · exact hHeld.trans (hb5.mono hHeld.size)
        clear hK K
        try simp only [Act.put, List.setIfInBounds_toArray, List.set_cons_zero, List.set_cons_succ]
        clear hb5
        refine held_take (i := 4) (fuel := 13) (v := ?_) (by rw [List.getElem?_toArray]; rfl) (by kernel_rfl) (by kernel_rfl) (by kernel_rfl) hHeld ?_ ?_ ?_ ?_
        rotate_left
        · intro u hSw
          go_simp
          try with_reducible rfl
        · rfl
        · exact fun _ _ _ h => h
        try simp only [Act.put, List.setIfInBounds_toArray, List.set_cons_zero, List.set_cons_succ]
        refine held_take (i := 5) (fuel := 12) (v := ?_) (by rw [List.getElem?_toArray]; rfl) (by kernel_rfl) (by kernel_rfl) (by kernel_rfl) hHeld ?_ ?_ ?_ ?_
        rotate_left
        · intro u hSw
          go_simp
          try with_reducible rfl
        · rfl
        · exact fun _ _ _ h => h
        try simp only [Act.put, List.setIfInBounds_toArray, List.set_cons_zero, List.set_cons_succ]
        refine held_one (i := 6) (fuel := 11) (by kernel_rfl) (by rw [List.getElem?_toArray]; rfl) (fun K hK => ?_)
        go_simp
        refine (stays18_any ys _ ysA ysm ysc ((HSZ.out.1.below hHeld).more hHeld.size) (fun x hx => ((HSZ.out.2.1 x hx).below hHeld).more hHeld.size)).mono ?_
        rintro f w6 ⟨b, rfl, hb, hb6⟩
        obtain rfl : b = true := hb.2 (by rw [HSZ.out.2.2.1]; exact hst)
        refine hK.out _ _ ?_ (fun hHeld => ?_)
        · exact hHeld.trans (hb6.mono hHeld.size)
        clear hK K
        try simp only [Act.put, List.setIfInBounds_toArray, List.set_cons_zero, List.set_cons_succ]
        clear hb6 hb
        refine held_take (i := 7) (fuel := 10) (v := ?_) (by rw [List.getElem?_toArray]; rfl) (by kernel_rfl) (by kernel_rfl) (by kernel_rfl) hHeld ?_ ?_ ?_ ?_
        rotate_left
        · intro u hSw
          go_simp
          try with_reducible rfl
        · rfl
        · exact fun _ _ _ h => h
        try simp only [Act.put, List.setIfInBounds_toArray, List.set_cons_zero, List.set_cons_succ]
        refine held_skip (i := 8) (fuel := 9) (by rw [List.getElem?_toArray]; rfl) (by kernel_rfl) (by kernel_rfl) (by kernel_rfl) hHeld ?_ ?_ ?_
        · rfl
        · exact fun _ _ _ h => h
        try simp only [Act.put, List.setIfInBounds_toArray, List.set_cons_zero, List.set_cons_succ]
        refine held_skip (i := 9) (fuel := 8) (by rw [List.getElem?_toArray]; rfl) (by kernel_rfl) (by kernel_rfl) (by kernel_rfl) hHeld ?_ ?_ ?_
        · rfl
        · exact fun _ _ _ h => h
        try simp only [Act.put, List.setIfInBounds_toArray, List.set_cons_zero, List.set_cons_succ]
        refine held_skip (i := 10) (fuel := 7) (by rw [List.getElem?_toArray]; rfl) (by kernel_rfl) (by kernel_rfl) (by kernel_rfl) hHeld ?_ ?_ ?_
        · rfl
        · exact fun _ _ _ h => h
        try simp only [Act.put, List.setIfInBounds_toArray, List.set_cons_zero, List.set_cons_succ]
        refine held_skip (i := 11) (fuel := 6) (by rw [List.getElem?_toArray]; rfl) (by kernel_rfl) (by kernel_rfl) (by kernel_rfl) hHeld ?_ ?_ ?_
        · rfl
        · exact fun _ _ _ h => h
        try simp only [Act.put, List.setIfInBounds_toArray, List.set_cons_zero, List.set_cons_succ]
        refine held_take (i := 12) (fuel := 5) (v := ?_) (by rw [List.getElem?_toArray]; rfl) (by kernel_rfl) (by kernel_rfl) (by kernel_rfl) hHeld ?_ ?_ ?_ ?_
        rotate_left
        · intro u hSw
          go_simp
          try with_reducible rfl
        · rfl
        · exact fun _ _ _ h => h
        try simp only [Act.put, List.setIfInBounds_toArray, List.set_cons_zero, List.set_cons_succ]
        refine held_take (i := 13) (fuel := 4) (v := ?_) (by rw [List.getElem?_toArray]; rfl) (by kernel_rfl) (by kernel_rfl) (by kernel_rfl) hHeld ?_ ?_ ?_ ?_
        rotate_left
        · intro u hSw
          go_simp
          try with_reducible rfl
        · rfl
        · exact fun _ _ _ h => h
        try simp only [Act.put, List.setIfInBounds_toArray, List.set_cons_zero, List.set_cons_succ]
        refine held_take (i := 14) (fuel := 3) (v := ?_) (by rw [List.getElem?_toArray]; rfl) (by kernel_rfl) (by kernel_rfl) (by kernel_rfl) hHeld ?_ ?_ ?_ ?_
        rotate_left
        · intro u hSw
          go_simp
          try with_reducible rfl
        · rfl
        · exact fun _ _ _ h => h
        try simp only [Act.put, List.setIfInBounds_toArray, List.set_cons_zero, List.set_cons_succ]
        refine held_one (i := 15) (fuel := 2) (by kernel_rfl) (by rw [List.getElem?_toArray]; rfl) (fun K hK => ?_)
        go_simp
        refine (awake18_of HE.out HB.out _).mono ?_
        rintro f w9 ⟨rfl, hb9⟩
        refine hK.out _ _ ?_ (fun hHeld => ?_)
        · exact hHeld.trans (hb9.mono hHeld.size)
        clear hK K
        try simp only [Act.put, List.setIfInBounds_toArray, List.set_cons_zero, List.set_cons_succ]
        clear hb9
        refine held_take (i := 16) (fuel := 1) (v := ?_) (by rw [List.getElem?_toArray]; rfl) (by kernel_rfl) (by kernel_rfl) (by kernel_rfl) hHeld ?_ ?_ ?_ ?_
        rotate_left
        · intro u hSw
          go_simp
          try with_reducible rfl
        · rfl
        · exact fun _ _ _ h => h
        try simp only [Act.put, List.setIfInBounds_toArray, List.set_cons_zero, List.set_cons_succ]
        refine held_take (i := 17) (fuel := 0) (v := ?_) (by rw [List.getElem?_toArray]; rfl) (by kernel_rfl) (by kernel_rfl) (by kernel_rfl) hHeld ?_ ?_ ?_ ?_
        rotate_left
        · intro u hSw
          go_simp
          try with_reducible rfl
        · rfl
        · exact fun _ _ _ h => h
        try simp only [Act.put, List.setIfInBounds_toArray, List.set_cons_zero, List.set_cons_succ]
        refine wpAnyH_done (by kernel_rfl) ?_ _
        have HF := Lib.hid (HZX.out.trans (hHeld.mono HZX.out.size))
        go_wp2_with fail
        go_ret
        exact ⟨rfl, HF.out⟩
      · skip
        refine wp_region_held_drew (S := Below Z.heap.size Z) (by kernel_rfl) (Below.refl _ _).drew (fun hHeld => ?_)
        refine held_take (i := 0) (fuel := 17) (v := ?_) (by rw [List.getElem?_toArray]; rfl) (by kernel_rfl) (by kernel_rfl) (by kernel_rfl) hHeld ?_ ?_ ?_ ?_
        rotate_left
        · intro u hSw
          obtain ⟨c0, c1, c2, c3, c4⟩ := hcz.out u hSw
          go_simp
          try with_reducible rfl
        · rfl
        · exact fun _ _ _ h => h
        try simp only [Act.put, List.setIfInBounds_toArray, List.set_cons_zero, List.set_cons_succ]
        refine held_take (i := 2) (fuel := 16) (v := ?_) (by rw [List.getElem?_toArray]; rfl) (by kernel_rfl) (by kernel_rfl) (by kernel_rfl) hHeld ?_ ?_ ?_ ?_
        rotate_left
        · intro u hSw
          obtain ⟨c0, c1, c2, c3, c4⟩ := hcz.out u hSw
          go_simp
          try with_reducible rfl
        · rfl
        · exact fun _ _ _ h => h
        try simp only [Act.put, List.setIfInBounds_toArray, List.set_cons_zero, List.set_cons_succ]
        refine held_one (i := 1) (fuel := 15) (by kernel_rfl) (by rw [List.getElem?_toArray]; rfl) (fun K hK => ?_)
        go_simp
        refine (HE.out (EL.mk yk yo ym yS yA yn yc yes) (fun b => b < Z.heap.size) _ ((HYZ.out.1.below hHeld).more hHeld.size) HYZ.out.1.atB (by rw [HYZ.out.2]; exact HPL.out)).mono ?_
        rintro f w4 ⟨z, rfl, z1, z2, z3, hb4⟩
        have HZI : Hid (z.In w4 w4.heap.size ∧ plE z = p) := Lib.hid ⟨z1, by rw [z3, HYZ.out.2, HPI.out]⟩
        clear z1 z2 z3
        refine hK.out _ _ ?_ (fun hHeld => ?_)
        · exact hHeld.trans (hb4.mono hHeld.size)
        clear hK K
        try simp only [Act.put, List.setIfInBounds_toArray, List.set_cons_zero, List.set_cons_succ]
        clear hb4
        refine held_one (i := 3) (fuel := 14) (by kernel_rfl) (by rw [List.getElem?_toArray]; rfl) (fun K hK => ?_)
        go_simp
        have hs : sameE z (EL.mk yk yo ym yS yA yn yc yes) = true := (sameE_pl _ _).2 (by rw [HZI.out.2, HYZ.out.2])
        refine (tSame_any z (EL.mk yk yo ym yS yA yn yc yes) _ HZI.out.1 ((HYZ.out.1.below hHeld).more hHeld.size)).mono ?_
        rw [hs]
        rintro f w5 ⟨rfl, hb5⟩
        clear hs
        refine hK.out _ _ ?_ (fun hHeld => ?_)
        · exact hHeld.trans (hb5.mono hHeld.size)
        clear hK K
        try simp only [Act.put, List.setIfInBounds_toArray, List.set_cons_zero, List.set_cons_succ]
        clear hb5
        refine held_take (i := 4) (fuel := 13) (v := ?_) (by rw [List.getElem?_toArray]; rfl) (by kernel_rfl) (by kernel_rfl) (by kernel_rfl) hHeld ?_ ?_ ?_ ?_
        rotate_left
        · intro u hSw
          go_simp
          try with_reducible rfl
        · rfl
        · exact fun _ _ _ h => h
        try simp only [Act.put, List.setIfInBounds_toArray, List.set_cons_zero, List.set_cons_succ]
        refine held_take (i := 5) (fuel := 12) (v := ?_) (by rw [List.getElem?_toArray]; rfl) (by kernel_rfl) (by kernel_rfl) (by kernel_rfl) hHeld ?_ ?_ ?_ ?_
        rotate_left
        · intro u hSw
          go_simp
          try with_reducible rfl
        · rfl
        · exact fun _ _ _ h => h
        try simp only [Act.put, List.setIfInBounds_toArray, List.set_cons_zero, List.set_cons_succ]
        refine held_one (i := 6) (fuel := 11) (by kernel_rfl) (by rw [List.getElem?_toArray]; rfl) (fun K hK => ?_)
        go_simp
        refine (stays18_any ys _ ysA ysm ysc ((HSZ.out.1.below hHeld).more hHeld.size) (fun x hx => ((HSZ.out.2.1 x hx).below hHeld).more hHeld.size)).mono ?_
        rintro f w6 ⟨b, rfl, hb, hb6⟩
        obtain rfl : b = false := by
          cases b with
          | false => rfl
          | true => exact absurd (by rw [← HSZ.out.2.2.1]; exact hb.1 rfl) hst
        refine hK.out _ _ ?_ (fun hHeld => ?_)
        · exact hHeld.trans (hb6.mono hHeld.size)
        clear hK K
        try simp only [Act.put, List.setIfInBounds_toArray, List.set_cons_zero, List.set_cons_succ]
        clear hb6 hb
        refine held_take (i := 7) (fuel := 10) (v := ?_) (by rw [List.getElem?_toArray]; rfl) (by kernel_rfl) (by kernel_rfl) (by kernel_rfl) hHeld ?_ ?_ ?_ ?_
        rotate_left
        · intro u hSw
          go_simp
          try with_reducible rfl
        · rfl
        · exact fun _ _ _ h => h
        try simp only [Act.put, List.setIfInBounds_toArray, List.set_cons_zero, List.set_cons_succ]
        refine held_take (i := 8) (fuel := 9) (v := ?_) (by rw [List.getElem?_toArray]; rfl) (by kernel_rfl) (by kernel_rfl) (by kernel_rfl) hHeld ?_ ?_ ?_ ?_
        rotate_left
        · intro u hSw
          go_simp
          try with_reducible rfl
        · rfl
        · exact fun _ _ _ h => h
        try simp only [Act.put, List.setIfInBounds_toArray, List.set_cons_zero, List.set_cons_succ]
        refine held_take (i := 10) (fuel := 8) (v := ?_) (by rw [List.getElem?_toArray]; rfl) (by kernel_rfl) (by kernel_rfl) (by kernel_rfl) hHeld ?_ ?_ ?_ ?_
        rotate_left
        · intro u hSw
          go_simp
          try with_reducible rfl
        · rfl
        · exact fun _ _ _ h => h
        try simp only [Act.put, List.setIfInBounds_toArray, List.set_cons_zero, List.set_cons_succ]
        refine held_one (i := 9) (fuel := 7) (by kernel_rfl) (by rw [List.getElem?_toArray]; rfl) (fun K hK => ?_)
        go_simp
        refine (HB.out ys (fun b => b < Z.heap.size) _ ysA ysm ysc ((HSZ.out.1.below hHeld).more hHeld.size) (fun x hx => ((HSZ.out.2.1 x hx).below hHeld).more hHeld.size) (fun x hx => (HSZ.out.2.1 x hx).atB) (fun b h => Nat.lt_of_lt_of_le h hHeld.size) HSZ.out.2.2.2 (fun x hx => HQL.out _ (by rw [← HSZ.out.2.2.1]; exact List.mem_map.2 ⟨x, hx, rfl⟩))).mono ?_
        rintro f w7 ⟨zsA, zsm, zsc, zs, rfl, z1, z2, z3, z4, z5, z6, hb7⟩
        have HZS : Hid (RowS6 w7 w7.heap.size zsA zsm zs ∧ (∀ x ∈ zs, x.In w7 w7.heap.size) ∧ zs.map plS = q) := Lib.hid ⟨z1, z3, by rw [z5, HSZ.out.2.2.1, HQI.out hst]⟩
        clear z1 z2 z3 z4 z5 z6
        refine hK.out _ _ ?_ (fun hHeld => ?_)
        · exact hHeld.trans (hb7.mono hHeld.size)
        clear hK K
        try simp only [Act.put, List.setIfInBounds_toArray, List.set_cons_zero, List.set_cons_succ]
        clear hb7
        refine held_one (i := 11) (fuel := 6) (by kernel_rfl) (by rw [List.getElem?_toArray]; rfl) (fun K hK => ?_)
        go_simp
        have hs : sameSs zs ys = true := (sameSs_pl fun x _ => sameS_pl x).2 (by rw [HZS.out.2.2, HSZ.out.2.2.1])
        refine (tSameBlock_any zs ys zsA ysA zsm zsc ysm ysc _ HZS.out.1 (SL.Ins.of HZS.out.2.1) ((HSZ.out.1.below hHeld).more hHeld.size) (SL.Ins.of (fun x hx => ((HSZ.out.2.1 x hx).below hHeld).more hHeld.size))).mono ?_
        rw [hs]
        rintro f w8 ⟨rfl, hb8⟩
        clear hs
        refine hK.out _ _ ?_ (fun hHeld => ?_)
        · exact hHeld.trans (hb8.mono hHeld.size)
        clear hK K
        try simp only [Act.put, List.setIfInBounds_toArray, List.set_cons_zero, List.set_cons_succ]
        clear hb8
        refine held_take (i := 12) (fuel := 5) (v := ?_) (by rw [List.getElem?_toArray]; rfl) (by kernel_rfl) (by kernel_rfl) (by kernel_rfl) hHeld ?_ ?_ ?_ ?_
        rotate_left
        · intro u hSw
          go_simp
          try with_reducible rfl
        · rfl
        · exact fun _ _ _ h => h
        try simp only [Act.put, List.setIfInBounds_toArray, List.set_cons_zero, List.set_cons_succ]
        refine held_take (i := 13) (fuel := 4) (v := ?_) (by rw [List.getElem?_toArray]; rfl) (by kernel_rfl) (by kernel_rfl) (by kernel_rfl) hHeld ?_ ?_ ?_ ?_
        rotate_left
        · intro u hSw
          go_simp
          try with_reducible rfl
        · rfl
        · exact fun _ _ _ h => h
        try simp only [Act.put, List.setIfInBounds_toArray, List.set_cons_zero, List.set_cons_succ]
        refine held_take (i := 14) (fuel := 3) (v := ?_) (by rw [List.getElem?_toArray]; rfl) (by kernel_rfl) (by kernel_rfl) (by kernel_rfl) hHeld ?_ ?_ ?_ ?_
        rotate_left
        · intro u hSw
          go_simp
          try with_reducible rfl
        · rfl
        · exact fun _ _ _ h => h
        try simp only [Act.put, List.setIfInBounds_toArray, List.set_cons_zero, List.set_cons_succ]
        refine held_one (i := 15) (fuel := 2) (by kernel_rfl) (by rw [List.getElem?_toArray]; rfl) (fun K hK => ?_)
        go_simp
        refine (awake18_of HE.out HB.out _).mono ?_
        rintro f w9 ⟨rfl, hb9⟩
        refine hK.out _ _ ?_ (fun hHeld => ?_)
        · exact hHeld.trans (hb9.mono hHeld.size)
        clear hK K
        try simp only [Act.put, List.setIfInBounds_toArray, List.set_cons_zero, List.set_cons_succ]
        clear hb9
        refine held_take (i := 16) (fuel := 1) (v := ?_) (by rw [List.getElem?_toArray]; rfl) (by kernel_rfl) (by kernel_rfl) (by kernel_rfl) hHeld ?_ ?_ ?_ ?_
        rotate_left
        · intro u hSw
          go_simp
          try with_reducible rfl
        · rfl
        · exact fun _ _ _ h => h
        try simp only [Act.put, List.setIfInBounds_toArray, List.set_cons_zero, List.set_cons_succ]
        refine held_take (i := 17) (fuel := 0) (v := ?_) (by rw [List.getElem?_toArray]; rfl) (by kernel_rfl) (by kernel_rfl) (by kernel_rfl) hHeld ?_ ?_ ?_ ?_
        rotate_left
        · intro u hSw
          go_simp
          try with_reducible rfl
        · rfl
        · exact fun _ _ _ h => h
        try simp only [Act.put, List.setIfInBounds_toArray, List.set_cons_zero, List.set_cons_succ]
        refine wpAnyH_done (by kernel_rfl) ?_ _
        have HF := Lib.hid (HZX.out.trans (hHeld.mono HZX.out.size))
        go_wp2_with fail
        go_ret
        exact ⟨rfl, HF.out⟩
    exact AllReadyH.nil

end

end Go.Proofs.Ytiioffjjlcfhgaa
