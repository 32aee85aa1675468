/- TreeSizes: how great and how deep any expression and any statements are. -/
import Derived.Test.YtdmpadonnobeaaaAll10
import Derived.Test.YtdmpadonnobeaaaRegion
namespace Go.Proofs.Ytdmpadonnobeaaa
open Go.RowKit
set_option linter.unusedVariables false

set_option maxRecDepth 100000 in
set_option maxHeartbeats 6400000 in
theorem treeSizes_any (e : EL) (ss : List SL) (A' : Option Addr) (n' c' : Nat) (w : World) (hin : e.In w w.heap.size) (hrow : RowS6 w w.heap.size A' n' ss) (hins : SL.Ins w w.heap.size ss) :
    Calls Try.prog 8 #[eVal e, .slice A' n' c'] w fun f w' => f = .returned (.bool true) ∧ Below w.heap.size w w' := by
  obtain ⟨ev, hev⟩ : ∃ v, v = eVal e := ⟨_, rfl⟩
  have hE : ∀ W : World, Below w.heap.size w W → e.In W W.heap.size := fun W hb => EL.In.more hb.size (hin.below hb)
  have hR : ∀ W : World, Below w.heap.size w W → RowS6 W W.heap.size A' n' ss ∧ SL.Ins W W.heap.size ss := fun W hb => ⟨(hrow.below hb).more hb.size, (hins.below hb).more hb.size⟩
  obtain ⟨z1, hz1⟩ : ∃ z, z = sizeE e := ⟨_, rfl⟩
  obtain ⟨z2, hz2⟩ : ∃ z, z = min 65 (depE e) := ⟨_, rfl⟩
  obtain ⟨z3, hz3⟩ : ∃ z, z = sizeSs ss := ⟨_, rfl⟩
  obtain ⟨z4, hz4⟩ : ∃ z, z = min 65 (depSs ss) := ⟨_, rfl⟩
  have HFEW := Lib.hid (fun (W : World) (hb : Below w.heap.size w W) => few_any e 2000 (by decide) (by decide) W (hE W hb))
  have HFWB := Lib.hid (fun (W : World) (hb : Below w.heap.size w W) => fewBlock_any ss 2000 (by decide) (by decide) A' n' c' W (hR W hb).1 (hR W hb).2)
  have h1 : sizeE e ≤ 2000 → ∀ W : World, Below w.heap.size w W → Calls Try.prog 24 #[ev] W fun f w' => f = .returned (.int .i64 (z1 : Int)) ∧ Below W.heap.size W w' := fun h W hb => by rw [hz1, hev]; exact tSize_any e (by omega) W (hE W hb)
  have h2 : sizeE e ≤ 2000 → ∀ W : World, Below w.heap.size w W → Calls Try.prog 28 #[ev] W fun f w' => f = .returned (.int .i64 (z1 : Int)) ∧ Below W.heap.size W w' := fun h W hb => by rw [hz1, hev]; exact r10Size_any e (by omega) W (hE W hb)
  have h3 : ∀ W : World, Below w.heap.size w W → Calls Try.prog 25 #[ev] W fun f w' => f = .returned (.int .i64 (z2 : Int)) ∧ Below W.heap.size W w' := fun W hb => by rw [hz2, hev]; exact tDepth_any e W (hE W hb)
  have h4 : ∀ W : World, Below w.heap.size w W → Calls Try.prog 29 #[ev] W fun f w' => f = .returned (.int .i64 (z2 : Int)) ∧ Below W.heap.size W w' := fun W hb => by rw [hz2, hev]; exact r10Depth_any e W (hE W hb)
  have h5 : totSs ss ≤ 2000 → ∀ W : World, Below w.heap.size w W → Calls Try.prog 26 #[.slice A' n' c'] W fun f w' => f = .returned (.int .i64 (z3 : Int)) ∧ Below W.heap.size W w' := fun h W hb => by rw [hz3]; exact tSizeBlock_any 2000 (by decide) ss A' n' c' W (Nat.le_trans (size_tot _ ss (Nat.le_refl _)) h) (hR W hb).1 (hR W hb).2
  have h6 : totSs ss ≤ 2000 → ∀ W : World, Below w.heap.size w W → Calls Try.prog 30 #[.slice A' n' c'] W fun f w' => f = .returned (.int .i64 (z3 : Int)) ∧ Below W.heap.size W w' := fun h W hb => by rw [hz3]; exact r10SizeBlock_any 2000 (by decide) ss A' n' c' W (Nat.le_trans (size_tot _ ss (Nat.le_refl _)) h) (hR W hb).1 (hR W hb).2
  have h7 : ∀ W : World, Below w.heap.size w W → Calls Try.prog 27 #[.slice A' n' c'] W fun f w' => f = .returned (.int .i64 (z4 : Int)) ∧ Below W.heap.size W w' := fun W hb => by rw [hz4]; exact tDepthBlock_any ss A' n' c' W (hR W hb).1 (hR W hb).2
  have h8 : ∀ W : World, Below w.heap.size w W → Calls Try.prog 31 #[.slice A' n' c'] W fun f w' => f = .returned (.int .i64 (z4 : Int)) ∧ Below W.heap.size W w' := fun W hb => by rw [hz4]; exact r10DepthBlock_any ss A' n' c' W (hR W hb).1 (hR W hb).2
  have HS1p := Lib.hid h1
  have HS2p := Lib.hid h2
  have HD1 := Lib.hid h3
  have HD2 := Lib.hid h4
  have HS3p := Lib.hid h5
  have HS4p := Lib.hid h6
  have HD3 := Lib.hid h7
  have HD4 := Lib.hid h8
  rw [← hev]
  rw [← hev] at HFEW
  clear hin hrow hins hE hR hz1 hz2 hz3 hz4 h1 h2 h3 h4 h5 h6 h7 h8
  obtain ⟨k, o, m, s, A, n, c, es⟩ := e
  have hev2 : ev = .agg #[.int .i64 k, .int .i64 o, .int .i64 m, .string (bs s), .slice A n c] := hev
  clear hev
  subst hev2
  obtain ⟨W, hW⟩ : ∃ W, W = w.alloc (.cells #[.int .i64 k, .int .i64 o, .int .i64 m, .string (bs s), .slice A n c] 24) := ⟨_, rfl⟩
  have HBW : Hid (Below w.heap.size w W) := Lib.hid (by rw [hW]; exact (Below.refl _ _).alloc (Nat.le_refl _) _)
  have HK : Hid (Blk W w.heap.size 24 #[.int .i64 k, .int .i64 o, .int .i64 m, .string (bs s), .slice A n c]) := Lib.hid (by rw [hW]; exact Blk.new w _ _)
  go_enter Try.func8, Try.ntmps8
  go_wp2_with fail
  rw [← hW]
  clear hW
  refine (HFEW.out W HBW.out).mono ?_
  rintro f w1 ⟨r1, rfl, hr1, hb1⟩
  have HX1 := Lib.hid (HBW.out.trans (hb1.mono HBW.out.size))
  have HW1 := Lib.hid hb1
  clear hb1
  by_cases g1 : r1 < 0
  · clear hr1
    go_wp2_with fail
    refine (awake_any _).mono ?_
    rintro f wa ⟨rfl, hba⟩
    go_wp2_with fail
    go_ret
    exact ⟨rfl, HX1.out.trans (hba.mono HX1.out.size)⟩
  · have hr1' := hr1 (by omega)
    have HS1 := Lib.hid (HS1p.out (by omega))
    have HS2 := Lib.hid (HS2p.out (by omega))
    have g1' : decide (r1 < 0) = false := by rw [decide_eq_false_iff_not]; exact g1
    clear hr1 hr1' g1 HS1p HS2p
    go_wp2_with fail
    refine (HFWB.out w1 HX1.out).mono ?_
    rintro f w2 ⟨r2, rfl, hr2, hb2⟩
    have HBX := Lib.hid (HX1.out.trans (hb2.mono HX1.out.size))
    have HW2 := Lib.hid (HW1.out.trans (hb2.mono HW1.out.size))
    clear hb2
    by_cases g2 : r2 < 0
    · clear hr2
      go_wp2_with fail
      refine (awake_any _).mono ?_
      rintro f wa ⟨rfl, hba⟩
      go_wp2_with fail
      go_ret
      exact ⟨rfl, HBX.out.trans (hba.mono HBX.out.size)⟩
    · have hr2' := hr2 (by omega)
      have HS3 := Lib.hid (HS3p.out (by omega))
      have HS4 := Lib.hid (HS4p.out (by omega))
      have g2' : decide (r2 < 0) = false := by rw [decide_eq_false_iff_not]; exact g2
      clear hr2 hr2' g2 HS3p HS4p
      have hce : Hid (∀ u : World, Below w2.heap.size w2 u → u.cell? ⟨w.heap.size, 0, none⟩ = some (.int .i64 k) ∧ u.cell? ⟨w.heap.size, 1, none⟩ = some (.int .i64 o) ∧ u.cell? ⟨w.heap.size, 2, none⟩ = some (.int .i64 m) ∧ u.cell? ⟨w.heap.size, 3, none⟩ = some (.string (bs s)) ∧ u.cell? ⟨w.heap.size, 4, none⟩ = some (.slice A n c)) := Lib.hid (fun u hb => by
        have hk : Blk w2 (w.heap.size) 24 #[.int .i64 k, .int .i64 o, .int .i64 m, .string (bs s), .slice A n c] := (HK.out).below HW2.out HK.out.lt
        have hk2 := hk.below hb hk.lt
        exact ⟨hk2.cell 0, hk2.cell 1, hk2.cell 2, hk2.cell 3, hk2.cell 4⟩)
      go_wp2_with fail
      refine wp_region_held_drew (S := Below w2.heap.size w2) (by kernel_rfl) (Below.refl _ _).drew (fun hHeld => ?_)
      refine held_take (i := 0) (fuel := 29) (v := ?_) (by rw [List.getElem?_toArray]; rfl) (by kernel_rfl) (by kernel_rfl) (by kernel_rfl) hHeld ?_ ?_ ?_ ?_
      rotate_left
      · intro u hSw
        obtain ⟨c0, c1, c2, c3, c4⟩ := hce.out u hSw
        go_simp
        try with_reducible rfl
      · rfl
      · exact fun _ _ _ h => h
      try simp only [Act.put, List.setIfInBounds_toArray, List.set_cons_zero, List.set_cons_succ]
      refine held_take (i := 2) (fuel := 28) (v := ?_) (by rw [List.getElem?_toArray]; rfl) (by kernel_rfl) (by kernel_rfl) (by kernel_rfl) hHeld ?_ ?_ ?_ ?_
      rotate_left
      · intro u hSw
        obtain ⟨c0, c1, c2, c3, c4⟩ := hce.out u hSw
        go_simp
        try with_reducible rfl
      · rfl
      · exact fun _ _ _ h => h
      try simp only [Act.put, List.setIfInBounds_toArray, List.set_cons_zero, List.set_cons_succ]
      refine held_one (i := 1) (fuel := 27) (by kernel_rfl) (by rw [List.getElem?_toArray]; rfl) (fun K hK => ?_)
      go_simp
      refine (HS1.out _ (HBX.out.trans (hHeld.mono HBX.out.size))).mono ?_
      rintro f w3 ⟨rfl, hb3⟩
      refine hK.out _ _ ?_ (fun hHeld => ?_)
      · exact hHeld.trans (hb3.mono hHeld.size)
      clear hK K
      try simp only [Act.put, List.setIfInBounds_toArray, List.set_cons_zero, List.set_cons_succ]
      refine held_one (i := 3) (fuel := 26) (by kernel_rfl) (by rw [List.getElem?_toArray]; rfl) (fun K hK => ?_)
      go_simp
      refine (HS2.out _ (HBX.out.trans (hHeld.mono HBX.out.size))).mono ?_
      rintro f w4 ⟨rfl, hb4⟩
      refine hK.out _ _ ?_ (fun hHeld => ?_)
      · exact hHeld.trans (hb4.mono hHeld.size)
      clear hK K
      try simp only [Act.put, List.setIfInBounds_toArray, List.set_cons_zero, List.set_cons_succ]
      refine held_take (i := 4) (fuel := 25) (v := ?_) (by rw [List.getElem?_toArray]; rfl) (by kernel_rfl) (by kernel_rfl) (by kernel_rfl) hHeld ?_ ?_ ?_ ?_
      rotate_left
      · intro u hSw
        go_simp
        try with_reducible rfl
      · rfl
      · exact fun _ _ _ h => h
      try simp only [Act.put, List.setIfInBounds_toArray, List.set_cons_zero, List.set_cons_succ]
      refine held_take (i := 5) (fuel := 24) (v := ?_) (by rw [List.getElem?_toArray]; rfl) (by kernel_rfl) (by kernel_rfl) (by kernel_rfl) hHeld ?_ ?_ ?_ ?_
      rotate_left
      · intro u hSw
        go_simp
        try with_reducible rfl
      · rfl
      · exact fun _ _ _ h => h
      try simp only [Act.put, List.setIfInBounds_toArray, List.set_cons_zero, List.set_cons_succ]
      refine held_take (i := 6) (fuel := 23) (v := ?_) (by rw [List.getElem?_toArray]; rfl) (by kernel_rfl) (by kernel_rfl) (by kernel_rfl) hHeld ?_ ?_ ?_ ?_
      rotate_left
      · intro u hSw
        obtain ⟨c0, c1, c2, c3, c4⟩ := hce.out u hSw
        go_simp
        try with_reducible rfl
      · rfl
      · exact fun _ _ _ h => h
      try simp only [Act.put, List.setIfInBounds_toArray, List.set_cons_zero, List.set_cons_succ]
      refine held_take (i := 8) (fuel := 22) (v := ?_) (by rw [List.getElem?_toArray]; rfl) (by kernel_rfl) (by kernel_rfl) (by kernel_rfl) hHeld ?_ ?_ ?_ ?_
      rotate_left
      · intro u hSw
        obtain ⟨c0, c1, c2, c3, c4⟩ := hce.out u hSw
        go_simp
        try with_reducible rfl
      · rfl
      · exact fun _ _ _ h => h
      try simp only [Act.put, List.setIfInBounds_toArray, List.set_cons_zero, List.set_cons_succ]
      refine held_one (i := 7) (fuel := 21) (by kernel_rfl) (by rw [List.getElem?_toArray]; rfl) (fun K hK => ?_)
      go_simp
      refine (HD1.out _ (HBX.out.trans (hHeld.mono HBX.out.size))).mono ?_
      rintro f w5 ⟨rfl, hb5⟩
      refine hK.out _ _ ?_ (fun hHeld => ?_)
      · exact hHeld.trans (hb5.mono hHeld.size)
      clear hK K
      try simp only [Act.put, List.setIfInBounds_toArray, List.set_cons_zero, List.set_cons_succ]
      refine held_one (i := 9) (fuel := 20) (by kernel_rfl) (by rw [List.getElem?_toArray]; rfl) (fun K hK => ?_)
      go_simp
      refine (HD2.out _ (HBX.out.trans (hHeld.mono HBX.out.size))).mono ?_
      rintro f w6 ⟨rfl, hb6⟩
      refine hK.out _ _ ?_ (fun hHeld => ?_)
      · exact hHeld.trans (hb6.mono hHeld.size)
      clear hK K
      try simp only [Act.put, List.setIfInBounds_toArray, List.set_cons_zero, List.set_cons_succ]
      refine held_take (i := 10) (fuel := 19) (v := ?_) (by rw [List.getElem?_toArray]; rfl) (by kernel_rfl) (by kernel_rfl) (by kernel_rfl) hHeld ?_ ?_ ?_ ?_
      rotate_left
      · intro u hSw
        go_simp
        try with_reducible rfl
      · rfl
      · exact fun _ _ _ h => h
      try simp only [Act.put, List.setIfInBounds_toArray, List.set_cons_zero, List.set_cons_succ]
      refine held_take (i := 11) (fuel := 18) (v := ?_) (by rw [List.getElem?_toArray]; rfl) (by kernel_rfl) (by kernel_rfl) (by kernel_rfl) hHeld ?_ ?_ ?_ ?_
      rotate_left
      · intro u hSw
        go_simp
        try with_reducible rfl
      · rfl
      · exact fun _ _ _ h => h
      try simp only [Act.put, List.setIfInBounds_toArray, List.set_cons_zero, List.set_cons_succ]
      refine held_take (i := 12) (fuel := 17) (v := ?_) (by rw [List.getElem?_toArray]; rfl) (by kernel_rfl) (by kernel_rfl) (by kernel_rfl) hHeld ?_ ?_ ?_ ?_
      rotate_left
      · intro u hSw
        go_simp
        try with_reducible rfl
      · rfl
      · exact fun _ _ _ h => h
      try simp only [Act.put, List.setIfInBounds_toArray, List.set_cons_zero, List.set_cons_succ]
      refine held_take (i := 13) (fuel := 16) (v := ?_) (by rw [List.getElem?_toArray]; rfl) (by kernel_rfl) (by kernel_rfl) (by kernel_rfl) hHeld ?_ ?_ ?_ ?_
      rotate_left
      · intro u hSw
        go_simp
        try with_reducible rfl
      · rfl
      · exact fun _ _ _ h => h
      try simp only [Act.put, List.setIfInBounds_toArray, List.set_cons_zero, List.set_cons_succ]
      refine held_take (i := 15) (fuel := 15) (v := ?_) (by rw [List.getElem?_toArray]; rfl) (by kernel_rfl) (by kernel_rfl) (by kernel_rfl) hHeld ?_ ?_ ?_ ?_
      rotate_left
      · intro u hSw
        go_simp
        try with_reducible rfl
      · rfl
      · exact fun _ _ _ h => h
      try simp only [Act.put, List.setIfInBounds_toArray, List.set_cons_zero, List.set_cons_succ]
      refine held_one (i := 14) (fuel := 14) (by kernel_rfl) (by rw [List.getElem?_toArray]; rfl) (fun K hK => ?_)
      go_simp
      refine (HS3.out _ (HBX.out.trans (hHeld.mono HBX.out.size))).mono ?_
      rintro f w7 ⟨rfl, hb7⟩
      refine hK.out _ _ ?_ (fun hHeld => ?_)
      · exact hHeld.trans (hb7.mono hHeld.size)
      clear hK K
      try simp only [Act.put, List.setIfInBounds_toArray, List.set_cons_zero, List.set_cons_succ]
      refine held_one (i := 16) (fuel := 13) (by kernel_rfl) (by rw [List.getElem?_toArray]; rfl) (fun K hK => ?_)
      go_simp
      refine (HS4.out _ (HBX.out.trans (hHeld.mono HBX.out.size))).mono ?_
      rintro f w8 ⟨rfl, hb8⟩
      refine hK.out _ _ ?_ (fun hHeld => ?_)
      · exact hHeld.trans (hb8.mono hHeld.size)
      clear hK K
      try simp only [Act.put, List.setIfInBounds_toArray, List.set_cons_zero, List.set_cons_succ]
      refine held_take (i := 17) (fuel := 12) (v := ?_) (by rw [List.getElem?_toArray]; rfl) (by kernel_rfl) (by kernel_rfl) (by kernel_rfl) hHeld ?_ ?_ ?_ ?_
      rotate_left
      · intro u hSw
        go_simp
        try with_reducible rfl
      · rfl
      · exact fun _ _ _ h => h
      try simp only [Act.put, List.setIfInBounds_toArray, List.set_cons_zero, List.set_cons_succ]
      refine held_take (i := 18) (fuel := 11) (v := ?_) (by rw [List.getElem?_toArray]; rfl) (by kernel_rfl) (by kernel_rfl) (by kernel_rfl) hHeld ?_ ?_ ?_ ?_
      rotate_left
      · intro u hSw
        go_simp
        try with_reducible rfl
      · rfl
      · exact fun _ _ _ h => h
      try simp only [Act.put, List.setIfInBounds_toArray, List.set_cons_zero, List.set_cons_succ]
      refine held_take (i := 19) (fuel := 10) (v := ?_) (by rw [List.getElem?_toArray]; rfl) (by kernel_rfl) (by kernel_rfl) (by kernel_rfl) hHeld ?_ ?_ ?_ ?_
      rotate_left
      · intro u hSw
        go_simp
        try with_reducible rfl
      · rfl
      · exact fun _ _ _ h => h
      try simp only [Act.put, List.setIfInBounds_toArray, List.set_cons_zero, List.set_cons_succ]
      refine held_take (i := 20) (fuel := 9) (v := ?_) (by rw [List.getElem?_toArray]; rfl) (by kernel_rfl) (by kernel_rfl) (by kernel_rfl) hHeld ?_ ?_ ?_ ?_
      rotate_left
      · intro u hSw
        go_simp
        try with_reducible rfl
      · rfl
      · exact fun _ _ _ h => h
      try simp only [Act.put, List.setIfInBounds_toArray, List.set_cons_zero, List.set_cons_succ]
      refine held_take (i := 22) (fuel := 8) (v := ?_) (by rw [List.getElem?_toArray]; rfl) (by kernel_rfl) (by kernel_rfl) (by kernel_rfl) hHeld ?_ ?_ ?_ ?_
      rotate_left
      · intro u hSw
        go_simp
        try with_reducible rfl
      · rfl
      · exact fun _ _ _ h => h
      try simp only [Act.put, List.setIfInBounds_toArray, List.set_cons_zero, List.set_cons_succ]
      refine held_one (i := 21) (fuel := 7) (by kernel_rfl) (by rw [List.getElem?_toArray]; rfl) (fun K hK => ?_)
      go_simp
      refine (HD3.out _ (HBX.out.trans (hHeld.mono HBX.out.size))).mono ?_
      rintro f w9 ⟨rfl, hb9⟩
      refine hK.out _ _ ?_ (fun hHeld => ?_)
      · exact hHeld.trans (hb9.mono hHeld.size)
      clear hK K
      try simp only [Act.put, List.setIfInBounds_toArray, List.set_cons_zero, List.set_cons_succ]
      refine held_one (i := 23) (fuel := 6) (by kernel_rfl) (by rw [List.getElem?_toArray]; rfl) (fun K hK => ?_)
      go_simp
      refine (HD4.out _ (HBX.out.trans (hHeld.mono HBX.out.size))).mono ?_
      rintro f w10 ⟨rfl, hb10⟩
      refine hK.out _ _ ?_ (fun hHeld => ?_)
      · exact hHeld.trans (hb10.mono hHeld.size)
      clear hK K
      try simp only [Act.put, List.setIfInBounds_toArray, List.set_cons_zero, List.set_cons_succ]
      refine held_take (i := 24) (fuel := 5) (v := ?_) (by rw [List.getElem?_toArray]; rfl) (by kernel_rfl) (by kernel_rfl) (by kernel_rfl) hHeld ?_ ?_ ?_ ?_
      rotate_left
      · intro u hSw
        go_simp
        try with_reducible rfl
      · rfl
      · exact fun _ _ _ h => h
      try simp only [Act.put, List.setIfInBounds_toArray, List.set_cons_zero, List.set_cons_succ]
      refine held_take (i := 25) (fuel := 4) (v := ?_) (by rw [List.getElem?_toArray]; rfl) (by kernel_rfl) (by kernel_rfl) (by kernel_rfl) hHeld ?_ ?_ ?_ ?_
      rotate_left
      · intro u hSw
        go_simp
        try with_reducible rfl
      · rfl
      · exact fun _ _ _ h => h
      try simp only [Act.put, List.setIfInBounds_toArray, List.set_cons_zero, List.set_cons_succ]
      refine held_take (i := 26) (fuel := 3) (v := ?_) (by rw [List.getElem?_toArray]; rfl) (by kernel_rfl) (by kernel_rfl) (by kernel_rfl) hHeld ?_ ?_ ?_ ?_
      rotate_left
      · intro u hSw
        go_simp
        try with_reducible rfl
      · rfl
      · exact fun _ _ _ h => h
      try simp only [Act.put, List.setIfInBounds_toArray, List.set_cons_zero, List.set_cons_succ]
      refine held_one (i := 27) (fuel := 2) (by kernel_rfl) (by rw [List.getElem?_toArray]; rfl) (fun K hK => ?_)
      go_simp
      refine (awake_any _).mono ?_
      rintro f w11 ⟨rfl, hb11⟩
      refine hK.out _ _ ?_ (fun hHeld => ?_)
      · exact hHeld.trans (hb11.mono hHeld.size)
      clear hK K
      try simp only [Act.put, List.setIfInBounds_toArray, List.set_cons_zero, List.set_cons_succ]
      refine held_take (i := 28) (fuel := 1) (v := ?_) (by rw [List.getElem?_toArray]; rfl) (by kernel_rfl) (by kernel_rfl) (by kernel_rfl) hHeld ?_ ?_ ?_ ?_
      rotate_left
      · intro u hSw
        go_simp
        try with_reducible rfl
      · rfl
      · exact fun _ _ _ h => h
      try simp only [Act.put, List.setIfInBounds_toArray, List.set_cons_zero, List.set_cons_succ]
      refine held_take (i := 29) (fuel := 0) (v := ?_) (by rw [List.getElem?_toArray]; rfl) (by kernel_rfl) (by kernel_rfl) (by kernel_rfl) hHeld ?_ ?_ ?_ ?_
      rotate_left
      · intro u hSw
        go_simp
        try with_reducible rfl
      · rfl
      · exact fun _ _ _ h => h
      try simp only [Act.put, List.setIfInBounds_toArray, List.set_cons_zero, List.set_cons_succ]
      refine wpAnyH_done (by kernel_rfl) ?_ _
      have HF := Lib.hid (HBX.out.trans (hHeld.mono HBX.out.size))
      go_wp2_with fail
      go_ret
      exact ⟨rfl, HF.out⟩

end Go.Proofs.Ytdmpadonnobeaaa
