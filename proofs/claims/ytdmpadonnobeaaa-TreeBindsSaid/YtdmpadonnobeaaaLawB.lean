/- TreeBlocks, TreeBinds: which statements a source, a book may have. -/
import Derived.Test.YtdmpadonnobeaaaAll10
import Derived.Test.YtdmpadonnobeaaaRegion
namespace Go.Proofs.Ytdmpadonnobeaaa
open Go.RowKit
set_option linter.unusedVariables false

set_option maxRecDepth 100000 in
set_option maxHeartbeats 6400000 in
theorem treeBlocks_any (ss : List SL) (A' : Option Addr) (n' c' : Nat) (w : World) (hrow : RowS6 w w.heap.size A' n' ss) (hins : SL.Ins w w.heap.size ss) :
    Calls Try.prog 4 #[.slice A' n' c'] w fun f w' => f = .returned (.bool true) ∧ Below w.heap.size w w' := by
  have hR : ∀ W : World, Below w.heap.size w W → RowS6 W W.heap.size A' n' ss ∧ SL.Ins W W.heap.size ss := fun W hb => ⟨(hrow.below hb).more hb.size, (hins.below hb).more hb.size⟩
  obtain ⟨b, hb⟩ : ∃ b, b = rightBs nmB ss := ⟨_, rfl⟩
  have HFEW := Lib.hid (fewBlock_any ss 600 (by decide) (by decide) A' n' c' w hrow hins)
  have h1 : ∀ W : World, Below w.heap.size w W → Calls Try.prog 14 #[.slice A' n' c'] W fun f w' => f = .returned (.bool b) ∧ Below W.heap.size W w' := fun W h => by rw [hb]; exact tRightBlock_any ss A' n' c' W (hR W h).1 (hR W h).2
  have h2 : ∀ W : World, Below w.heap.size w W → Calls Try.prog 15 #[.slice A' n' c'] W fun f w' => f = .returned (.bool b) ∧ Below W.heap.size W w' := fun W h => by rw [hb]; exact r10RightBlock_any ss A' n' c' W (hR W h).1 (hR W h).2
  have H1 := Lib.hid h1
  have H2 := Lib.hid h2
  clear hrow hins hR hb h1 h2
  go_enter Try.func4, Try.ntmps4
  go_wp2_with fail
  refine HFEW.out.mono ?_
  rintro f w1 ⟨r1, rfl, hr1, hb1⟩
  have HX1 := Lib.hid hb1
  clear hb1 hr1
  by_cases g1 : r1 < 0
  · go_wp2_with fail
    refine (awake_any _).mono ?_
    rintro f wa ⟨rfl, hba⟩
    go_wp2_with fail
    go_ret
    exact ⟨rfl, HX1.out.trans (hba.mono HX1.out.size)⟩
  · have g1' : decide (r1 < 0) = false := by rw [decide_eq_false_iff_not]; exact g1
    clear g1
    go_wp2_with fail
    refine (H1.out w1 HX1.out).mono ?_
    rintro f w2 ⟨rfl, hb2⟩
    have HX2 := Lib.hid (HX1.out.trans (hb2.mono HX1.out.size))
    clear hb2
    go_wp2_with fail
    refine (H2.out w2 HX2.out).mono ?_
    rintro f w3 ⟨rfl, hb3⟩
    have HX3 := Lib.hid (HX2.out.trans (hb3.mono HX2.out.size))
    clear hb3
    have tb : (b == b) = true := by simp
    go_wp2_with fail
    refine (awake_any _).mono ?_
    rintro f wa ⟨rfl, hba⟩
    go_wp2_with fail
    go_ret
    exact ⟨rfl, HX3.out.trans (hba.mono HX3.out.size)⟩

set_option maxRecDepth 100000 in
set_option maxHeartbeats 6400000 in
theorem treeBinds_any (T : TV) (loc : Int) (hl : -9223372036854775808 ≤ loc ∧ loc ≤ 9223372036854775807) (ss : List SL) (A' : Option Addr) (n' c' : Nat) (w : World) (hT : T.In w w.heap.size) (hrow : RowS6 w w.heap.size A' n' ss) (hins : SL.Ins w w.heap.size ss) :
    Calls Try.prog 6 #[T.val, .slice A' n' c', .int .i64 loc] w fun f w' => f = .returned (.bool true) ∧ Below w.heap.size w w' := by
  have hR : ∀ W : World, Below w.heap.size w W → T.In W W.heap.size ∧ RowS6 W W.heap.size A' n' ss ∧ SL.Ins W W.heap.size ss := fun W hb => ⟨(hT.below hb).more hb.size, (hrow.below hb).more hb.size, (hins.below hb).more hb.size⟩
  obtain ⟨tv, htv⟩ : ∃ v, v = T.val := ⟨_, rfl⟩
  obtain ⟨b, hb⟩ : ∃ b, b = boundBs T.tb loc ss := ⟨_, rfl⟩
  have hf : ∀ W : World, Below w.heap.size w W → Calls Try.prog 13 #[.slice A' n' c', .int .i64 600] W (FewOut (totSs ss) 600 W) := fun W h => fewBlock_any ss 600 (by decide) (by decide) A' n' c' W (hR W h).2.1 (hR W h).2.2
  have h1 : ∀ W : World, Below w.heap.size w W → Calls Try.prog 18 #[tv, .slice A' n' c', .int .i64 loc] W fun f w' => f = .returned (.bool b) ∧ Below W.heap.size W w' := fun W h => by rw [hb, htv]; exact tBoundBlock_any T loc hl.2 ss A' n' c' W (hR W h).1 (hR W h).2.1 (hR W h).2.2
  have h2 : ∀ W : World, Below w.heap.size w W → Calls Try.prog 19 #[tv, .slice A' n' c', .int .i64 loc] W fun f w' => f = .returned (.bool b) ∧ Below W.heap.size W w' := fun W h => by rw [hb, htv]; exact r10BoundBlock_any T loc hl ss A' n' c' W (hR W h).1 (hR W h).2.1 (hR W h).2.2
  have HFEW := Lib.hid hf
  have H1 := Lib.hid h1
  have H2 := Lib.hid h2
  rw [← htv]
  clear hrow hins hR hb h1 h2 hf hT hl
  obtain ⟨t1, t2, t3, t4, S1, m1, k1, fl, S2, m2, k2, S3, m3, k3, S4, m4, k4, S5, m5, k5, S6, m6, k6, S7, m7, k7, S8, m8, k8, S9, m9, k9, S10, m10, k10, fs, ps⟩ := T
  have htv2 : tv = .agg #[.int .i64 t1, .int .i64 t2, .int .i64 t3, .int .i64 t4, .slice S1 m1 k1, .int .i64 fl, .slice S2 m2 k2, .slice S3 m3 k3, .slice S4 m4 k4, .slice S5 m5 k5, .slice S6 m6 k6, .slice S7 m7 k7, .slice S8 m8 k8, .slice S9 m9 k9, .slice S10 m10 k10] := htv
  clear htv
  subst htv2
  obtain ⟨W, hW⟩ : ∃ W, W = w.alloc (.cells #[.int .i64 t1, .int .i64 t2, .int .i64 t3, .int .i64 t4, .slice S1 m1 k1, .int .i64 fl, .slice S2 m2 k2, .slice S3 m3 k3, .slice S4 m4 k4, .slice S5 m5 k5, .slice S6 m6 k6, .slice S7 m7 k7, .slice S8 m8 k8, .slice S9 m9 k9, .slice S10 m10 k10] 37) := ⟨_, rfl⟩
  have HBW : Hid (Below w.heap.size w W) := Lib.hid (by rw [hW]; exact (Below.refl _ _).alloc (Nat.le_refl _) _)
  have HK : Hid (Blk W w.heap.size 37 #[.int .i64 t1, .int .i64 t2, .int .i64 t3, .int .i64 t4, .slice S1 m1 k1, .int .i64 fl, .slice S2 m2 k2, .slice S3 m3 k3, .slice S4 m4 k4, .slice S5 m5 k5, .slice S6 m6 k6, .slice S7 m7 k7, .slice S8 m8 k8, .slice S9 m9 k9, .slice S10 m10 k10]) := Lib.hid (by rw [hW]; exact Blk.new w _ _)
  go_enter Try.func6, Try.ntmps6
  go_wp2_with fail
  rw [← hW]
  clear hW
  refine (HFEW.out W HBW.out).mono ?_
  rintro f w1 ⟨r1, rfl, hr1, hb1⟩
  have HX1 := Lib.hid (HBW.out.trans (hb1.mono HBW.out.size))
  have HW1 := Lib.hid hb1
  clear hb1 hr1
  by_cases g1 : r1 < 0
  · go_wp2_with fail
    refine (awake_any _).mono ?_
    rintro f wa ⟨rfl, hba⟩
    go_wp2_with fail
    go_ret
    exact ⟨rfl, HX1.out.trans (hba.mono HX1.out.size)⟩
  · have g1' : decide (r1 < 0) = false := by rw [decide_eq_false_iff_not]; exact g1
    clear g1
    have tb : (b == b) = true := by simp
    have hct : Hid (∀ u : World, Below w1.heap.size w1 u → u.cell? ⟨w.heap.size, 0, none⟩ = some (.int .i64 t1) ∧ u.cell? ⟨w.heap.size, 1, none⟩ = some (.int .i64 t2) ∧ u.cell? ⟨w.heap.size, 2, none⟩ = some (.int .i64 t3) ∧ u.cell? ⟨w.heap.size, 3, none⟩ = some (.int .i64 t4) ∧ u.cell? ⟨w.heap.size, 4, none⟩ = some (.slice S1 m1 k1) ∧ u.cell? ⟨w.heap.size, 5, none⟩ = some (.int .i64 fl) ∧ u.cell? ⟨w.heap.size, 6, none⟩ = some (.slice S2 m2 k2) ∧ u.cell? ⟨w.heap.size, 7, none⟩ = some (.slice S3 m3 k3) ∧ u.cell? ⟨w.heap.size, 8, none⟩ = some (.slice S4 m4 k4) ∧ u.cell? ⟨w.heap.size, 9, none⟩ = some (.slice S5 m5 k5) ∧ u.cell? ⟨w.heap.size, 10, none⟩ = some (.slice S6 m6 k6) ∧ u.cell? ⟨w.heap.size, 11, none⟩ = some (.slice S7 m7 k7) ∧ u.cell? ⟨w.heap.size, 12, none⟩ = some (.slice S8 m8 k8) ∧ u.cell? ⟨w.heap.size, 13, none⟩ = some (.slice S9 m9 k9) ∧ u.cell? ⟨w.heap.size, 14, none⟩ = some (.slice S10 m10 k10)) := Lib.hid (fun u hb => by
      have hk : Blk w1 (w.heap.size) 37 #[.int .i64 t1, .int .i64 t2, .int .i64 t3, .int .i64 t4, .slice S1 m1 k1, .int .i64 fl, .slice S2 m2 k2, .slice S3 m3 k3, .slice S4 m4 k4, .slice S5 m5 k5, .slice S6 m6 k6, .slice S7 m7 k7, .slice S8 m8 k8, .slice S9 m9 k9, .slice S10 m10 k10] := (HK.out).below HW1.out HK.out.lt
      have hk2 := hk.below hb hk.lt
      exact ⟨hk2.cell 0, hk2.cell 1, hk2.cell 2, hk2.cell 3, hk2.cell 4, hk2.cell 5, hk2.cell 6, hk2.cell 7, hk2.cell 8, hk2.cell 9, hk2.cell 10, hk2.cell 11, hk2.cell 12, hk2.cell 13, hk2.cell 14⟩)
    go_wp2_with fail
    refine wp_region_held_drew (S := Below w1.heap.size w1) (by kernel_rfl) (Below.refl _ _).drew (fun hHeld => ?_)
    refine held_take (i := 0) (fuel := 12) (v := ?_) (by rw [List.getElem?_toArray]; rfl) (by kernel_rfl) (by kernel_rfl) (by kernel_rfl) hHeld ?_ ?_ ?_ ?_
    rotate_left
    · intro u hSw
      obtain ⟨c0, c1, c2, c3, c4, c5, c6, c7, c8, c9, c10, c11, c12, c13, c14⟩ := hct.out u hSw
      go_simp
      try with_reducible rfl
    · rfl
    · exact fun _ _ _ h => h
    try simp only [Act.put, List.setIfInBounds_toArray, List.set_cons_zero, List.set_cons_succ]
    refine held_take (i := 1) (fuel := 11) (v := ?_) (by rw [List.getElem?_toArray]; rfl) (by kernel_rfl) (by kernel_rfl) (by kernel_rfl) hHeld ?_ ?_ ?_ ?_
    rotate_left
    · intro u hSw
      go_simp
      try with_reducible rfl
    · rfl
    · exact fun _ _ _ h => h
    try simp only [Act.put, List.setIfInBounds_toArray, List.set_cons_zero, List.set_cons_succ]
    refine held_take (i := 2) (fuel := 10) (v := ?_) (by rw [List.getElem?_toArray]; rfl) (by kernel_rfl) (by kernel_rfl) (by kernel_rfl) hHeld ?_ ?_ ?_ ?_
    rotate_left
    · intro u hSw
      go_simp
      try with_reducible rfl
    · rfl
    · exact fun _ _ _ h => h
    try simp only [Act.put, List.setIfInBounds_toArray, List.set_cons_zero, List.set_cons_succ]
    refine held_take (i := 4) (fuel := 9) (v := ?_) (by rw [List.getElem?_toArray]; rfl) (by kernel_rfl) (by kernel_rfl) (by kernel_rfl) hHeld ?_ ?_ ?_ ?_
    rotate_left
    · intro u hSw
      obtain ⟨c0, c1, c2, c3, c4, c5, c6, c7, c8, c9, c10, c11, c12, c13, c14⟩ := hct.out u hSw
      go_simp
      try with_reducible rfl
    · rfl
    · exact fun _ _ _ h => h
    try simp only [Act.put, List.setIfInBounds_toArray, List.set_cons_zero, List.set_cons_succ]
    refine held_take (i := 5) (fuel := 8) (v := ?_) (by rw [List.getElem?_toArray]; rfl) (by kernel_rfl) (by kernel_rfl) (by kernel_rfl) hHeld ?_ ?_ ?_ ?_
    rotate_left
    · intro u hSw
      go_simp
      try with_reducible rfl
    · rfl
    · exact fun _ _ _ h => h
    try simp only [Act.put, List.setIfInBounds_toArray, List.set_cons_zero, List.set_cons_succ]
    refine held_take (i := 6) (fuel := 7) (v := ?_) (by rw [List.getElem?_toArray]; rfl) (by kernel_rfl) (by kernel_rfl) (by kernel_rfl) hHeld ?_ ?_ ?_ ?_
    rotate_left
    · intro u hSw
      go_simp
      try with_reducible rfl
    · rfl
    · exact fun _ _ _ h => h
    try simp only [Act.put, List.setIfInBounds_toArray, List.set_cons_zero, List.set_cons_succ]
    refine held_one (i := 3) (fuel := 6) (by kernel_rfl) (by rw [List.getElem?_toArray]; rfl) (fun K hK => ?_)
    go_simp
    refine (H1.out _ (HX1.out.trans (hHeld.mono HX1.out.size))).mono ?_
    rintro f w3 ⟨rfl, hb3⟩
    refine hK.out _ _ ?_ (fun hHeld => ?_)
    · exact hHeld.trans (hb3.mono hHeld.size)
    clear hK K
    try simp only [Act.put, List.setIfInBounds_toArray, List.set_cons_zero, List.set_cons_succ]
    refine held_one (i := 7) (fuel := 5) (by kernel_rfl) (by rw [List.getElem?_toArray]; rfl) (fun K hK => ?_)
    go_simp
    refine (H2.out _ (HX1.out.trans (hHeld.mono HX1.out.size))).mono ?_
    rintro f w4 ⟨rfl, hb4⟩
    refine hK.out _ _ ?_ (fun hHeld => ?_)
    · exact hHeld.trans (hb4.mono hHeld.size)
    clear hK K
    try simp only [Act.put, List.setIfInBounds_toArray, List.set_cons_zero, List.set_cons_succ]
    refine held_take (i := 8) (fuel := 4) (v := ?_) (by rw [List.getElem?_toArray]; rfl) (by kernel_rfl) (by kernel_rfl) (by kernel_rfl) hHeld ?_ ?_ ?_ ?_
    rotate_left
    · intro u hSw
      go_simp
      try with_reducible rfl
    · rfl
    · exact fun _ _ _ h => h
    try simp only [Act.put, List.setIfInBounds_toArray, List.set_cons_zero, List.set_cons_succ]
    refine held_take (i := 9) (fuel := 3) (v := ?_) (by rw [List.getElem?_toArray]; rfl) (by kernel_rfl) (by kernel_rfl) (by kernel_rfl) hHeld ?_ ?_ ?_ ?_
    rotate_left
    · intro u hSw
      go_simp
      try with_reducible rfl
    · rfl
    · exact fun _ _ _ h => h
    try simp only [Act.put, List.setIfInBounds_toArray, List.set_cons_zero, List.set_cons_succ]
    refine held_one (i := 10) (fuel := 2) (by kernel_rfl) (by rw [List.getElem?_toArray]; rfl) (fun K hK => ?_)
    go_simp
    refine (awake_any _).mono ?_
    rintro f w5 ⟨rfl, hb5⟩
    refine hK.out _ _ ?_ (fun hHeld => ?_)
    · exact hHeld.trans (hb5.mono hHeld.size)
    clear hK K
    try simp only [Act.put, List.setIfInBounds_toArray, List.set_cons_zero, List.set_cons_succ]
    refine held_take (i := 11) (fuel := 1) (v := ?_) (by rw [List.getElem?_toArray]; rfl) (by kernel_rfl) (by kernel_rfl) (by kernel_rfl) hHeld ?_ ?_ ?_ ?_
    rotate_left
    · intro u hSw
      go_simp
      try with_reducible rfl
    · rfl
    · exact fun _ _ _ h => h
    try simp only [Act.put, List.setIfInBounds_toArray, List.set_cons_zero, List.set_cons_succ]
    refine held_take (i := 12) (fuel := 0) (v := ?_) (by rw [List.getElem?_toArray]; rfl) (by kernel_rfl) (by kernel_rfl) (by kernel_rfl) hHeld ?_ ?_ ?_ ?_
    rotate_left
    · intro u hSw
      go_simp
      try with_reducible rfl
    · rfl
    · exact fun _ _ _ h => h
    try simp only [Act.put, List.setIfInBounds_toArray, List.set_cons_zero, List.set_cons_succ]
    refine wpAnyH_done (by kernel_rfl) ?_ _
    have HF := Lib.hid (HX1.out.trans (hHeld.mono HX1.out.size))
    go_wp2_with fail
    go_ret
    exact ⟨rfl, HF.out⟩

end Go.Proofs.Ytdmpadonnobeaaa
