/- Contracts and lemmas that the proofs of this seat use. -/
import Derived.Test.YtiioffjjlcfhgaaQ3
import Derived.Laws.Rows
import Derived.RegionTactic
import Derived.ChangeAlike
import Derived.Deep.RegionWith
namespace Go.Proofs.Ytiioffjjlcfhgaa

section
open Go.RowKit
set_option linter.unusedVariables false
set_option linter.unusedSimpArgs false

set_option maxRecDepth 100000 in
set_option maxHeartbeats 4000000 in
theorem fconn_any (o l : Int) (x : EL) (w : World) : Calls Try.prog 77 #[.int .i64 o, .int .i64 l, eVal x] w fun e w' => e = .returned (.tuple #[.int .i64 (connV o l x.kind x.num).1, .bool (connV o l x.kind x.num).2]) ∧ Below w.heap.size w w' := by
  obtain ⟨k, z, m, s, A, n, c, es⟩ := x
  show Calls Try.prog _ #[.int .i64 o, .int .i64 l, .agg #[.int .i64 k, .int .i64 z, .int .i64 m, .string (bs s), .slice A n c]] w fun e w' => e = .returned (.tuple #[.int .i64 (connV o l k m).1, .bool (connV o l k m).2]) ∧ Below w.heap.size w w'
  obtain ⟨W, hW⟩ : ∃ W, W = w.alloc (.cells #[.int .i64 k, .int .i64 z, .int .i64 m, .string (bs s), .slice A n c] 31) := ⟨_, rfl⟩
  have HB : Hid (Below w.heap.size w W) := Lib.hid (by rw [hW]; exact (Below.refl _ _).alloc (Nat.le_refl _) _)
  have HK : Hid (Blk W w.heap.size 31 #[.int .i64 k, .int .i64 z, .int .i64 m, .string (bs s), .slice A n c]) := Lib.hid (by rw [hW]; exact Blk.new _ _ _)
  have HCE : Hid (∀ u, Below W.heap.size W u → u.cell? ⟨w.heap.size, 0, none⟩ = some (.int .i64 k) ∧ u.cell? ⟨w.heap.size, 1, none⟩ = some (.int .i64 z) ∧ u.cell? ⟨w.heap.size, 2, none⟩ = some (.int .i64 m) ∧ u.cell? ⟨w.heap.size, 3, none⟩ = some (.string (bs s)) ∧ u.cell? ⟨w.heap.size, 4, none⟩ = some (.slice A n c)) := Lib.hid (fun u hu => by
    have hb := HK.out.below hu HK.out.lt
    exact ⟨by rw [hb.cell 0]; rfl, by rw [hb.cell 1]; rfl, by rw [hb.cell 2]; rfl, by rw [hb.cell 3]; rfl, by rw [hb.cell 4]; rfl⟩)
  obtain ⟨R, hR⟩ : ∃ R, R = connV o l k m := ⟨_, rfl⟩
  rw [← hR]
  unfold connV at hR
  have H1 := Lib.hid (ftrue_any l W)
  obtain ⟨T, hT⟩ : ∃ T, T = decide (wrapV l ≠ 0) := ⟨_, rfl⟩
  obtain ⟨O, hO⟩ : ∃ O, O = decide (o = 1) := ⟨_, rfl⟩
  rw [← hT] at hR H1
  rw [← hO] at hR
  have qo : (o == 1) = O := by rw [hO]; exact beq_dec18 o 1
  have HR := Lib.hid hR
  clear hT hO hR
  go_enter Try.func77, Try.ntmps77
  go_wp2_with fail
  rw [← hW]
  clear hW
  go_wp2_with fail
  refine H1.out.mono ?_
  rintro e w2 ⟨rfl, e2⟩
  have e3 := e2.symm
  subst e3
  by_cases hq : (T == O) = true
  · have HE := Lib.hid (HR.out.trans (if_pos hq))
    go_wp2_with fail
    refine (ftruth_any _ _).mono ?_
    rintro e w2 ⟨rfl, rfl⟩
    go_wp2_with fail
    go_ret2
    exact ⟨by rw [HE.out]; rfl, HB.out⟩
  · have HE := Lib.hid (HR.out.trans (if_neg hq))
    rw [Bool.not_eq_true] at hq
    go_wp2_with fail
    refine wp_region_held_drew (S := Below W.heap.size W) (by kernel_rfl) (Below.refl _ W).drew (fun hHeld => ?_)
    refine held_take (i := 0) (fuel := 7) (v := ?_) (by rw [List.getElem?_toArray]; rfl) (by kernel_rfl) (by kernel_rfl) (by kernel_rfl) hHeld ?_ ?_ ?_ ?_
    rotate_left
    · intro u hSw
      go_simp
      try with_reducible rfl
    · rfl
    · exact fun _ _ _ h => h
    try simp only [Act.put, List.setIfInBounds_toArray, List.set_cons_zero, List.set_cons_succ]
    refine held_take (i := 1) (fuel := 6) (v := ?_) (by rw [List.getElem?_toArray]; rfl) (by kernel_rfl) (by kernel_rfl) (by kernel_rfl) hHeld ?_ ?_ ?_ ?_
    rotate_left
    · intro u hSw
      obtain ⟨d0, d1, d2, d3, d4⟩ := HCE.out u hSw
      go_simp
      try with_reducible rfl
    · rfl
    · exact fun _ _ _ h => h
    try simp only [Act.put, List.setIfInBounds_toArray, List.set_cons_zero, List.set_cons_succ]
    refine held_take (i := 4) (fuel := 5) (v := ?_) (by rw [List.getElem?_toArray]; rfl) (by kernel_rfl) (by kernel_rfl) (by kernel_rfl) hHeld ?_ ?_ ?_ ?_
    rotate_left
    · intro u hSw
      obtain ⟨d0, d1, d2, d3, d4⟩ := HCE.out u hSw
      go_simp
      try with_reducible rfl
    · rfl
    · exact fun _ _ _ h => h
    try simp only [Act.put, List.setIfInBounds_toArray, List.set_cons_zero, List.set_cons_succ]
    refine held_one (i := 2) (fuel := 4) (by kernel_rfl) (by rw [List.getElem?_toArray]; rfl) (fun K hK => ?_)
    go_simp
    refine (ftrue_any m _).mono ?_
    rintro e w3 ⟨rfl, rfl⟩
    refine hK.out _ _ ?_ (fun hHeld => ?_)
    · exact hHeld
    clear hK K
    try simp only [Act.put, List.setIfInBounds_toArray, List.set_cons_zero, List.set_cons_succ]
    refine held_one (i := 3) (fuel := 3) (by kernel_rfl) (by rw [List.getElem?_toArray]; rfl) (fun K hK => ?_)
    go_simp
    refine (ftruth_any _ _).mono ?_
    rintro e w4 ⟨rfl, rfl⟩
    refine hK.out _ _ ?_ (fun hHeld => ?_)
    · exact hHeld
    clear hK K
    try simp only [Act.put, List.setIfInBounds_toArray, List.set_cons_zero, List.set_cons_succ]
    refine held_one (i := 5) (fuel := 2) (by kernel_rfl) (by rw [List.getElem?_toArray]; rfl) (fun K hK => ?_)
    go_simp
    refine (fisnum_any (.mk k z m s A n c es) _).mono ?_
    rintro e w5 ⟨rfl, hb5⟩
    refine hK.out _ _ ?_ (fun hHeld => ?_)
    · exact hHeld.trans (hb5.mono hHeld.size)
    clear hK K
    try simp only [Act.put, List.setIfInBounds_toArray, List.set_cons_zero, List.set_cons_succ]
    refine held_take (i := 6) (fuel := 1) (v := ?_) (by rw [List.getElem?_toArray]; rfl) (by kernel_rfl) (by kernel_rfl) (by kernel_rfl) hHeld ?_ ?_ ?_ ?_
    rotate_left
    · intro u hSw
      go_simp
      try with_reducible rfl
    · rfl
    · exact fun _ _ _ h => h
    try simp only [Act.put, List.setIfInBounds_toArray, List.set_cons_zero, List.set_cons_succ]
    refine held_take (i := 7) (fuel := 0) (v := ?_) (by rw [List.getElem?_toArray]; rfl) (by kernel_rfl) (by kernel_rfl) (by kernel_rfl) hHeld ?_ ?_ ?_ ?_
    rotate_left
    · intro u hSw
      go_simp
      try with_reducible rfl
    · rfl
    · exact fun _ _ _ h => h
    try simp only [Act.put, List.setIfInBounds_toArray, List.set_cons_zero, List.set_cons_succ]
    refine wpAnyH_done (by kernel_rfl) ?_ _
    have J6 := HB.out.trans (hHeld.mono HB.out.size)
    go_wp2_with fail
    go_ret2
    exact ⟨by rw [HE.out]; first | rfl | (rw [show decide (wrapV m ≠ 0) = !decide (wrapV m = 0) from by simp]; rfl), J6⟩

set_option maxRecDepth 100000 in
set_option maxHeartbeats 12800000 in
theorem fbin_any (o l : Int) (x : EL) (w : World) : Calls Try.prog 49 #[.int .i64 o, .int .i64 l, eVal x] w fun e w' => e = .returned (.tuple #[.int .i64 (binE o l x.kind x.num).1, .bool (binE o l x.kind x.num).2]) ∧ Below w.heap.size w w' := by
  obtain ⟨k, z, m, s, A, n, c, es⟩ := x
  show Calls Try.prog _ #[.int .i64 o, .int .i64 l, .agg #[.int .i64 k, .int .i64 z, .int .i64 m, .string (bs s), .slice A n c]] w fun e w' => e = .returned (.tuple #[.int .i64 (binE o l k m).1, .bool (binE o l k m).2]) ∧ Below w.heap.size w w'
  obtain ⟨W, hW⟩ : ∃ W, W = w.alloc (.cells #[.int .i64 k, .int .i64 z, .int .i64 m, .string (bs s), .slice A n c] 31) := ⟨_, rfl⟩
  have HB : Hid (Below w.heap.size w W) := Lib.hid (by rw [hW]; exact (Below.refl _ _).alloc (Nat.le_refl _) _)
  have HK : Hid (Blk W w.heap.size 31 #[.int .i64 k, .int .i64 z, .int .i64 m, .string (bs s), .slice A n c]) := Lib.hid (by rw [hW]; exact Blk.new _ _ _)
  have HCE : Hid (∀ u, Below W.heap.size W u → u.cell? ⟨w.heap.size, 0, none⟩ = some (.int .i64 k) ∧ u.cell? ⟨w.heap.size, 1, none⟩ = some (.int .i64 z) ∧ u.cell? ⟨w.heap.size, 2, none⟩ = some (.int .i64 m) ∧ u.cell? ⟨w.heap.size, 3, none⟩ = some (.string (bs s)) ∧ u.cell? ⟨w.heap.size, 4, none⟩ = some (.slice A n c)) := Lib.hid (fun u hu => by
    have hb := HK.out.below hu HK.out.lt
    exact ⟨by rw [hb.cell 0]; rfl, by rw [hb.cell 1]; rfl, by rw [hb.cell 2]; rfl, by rw [hb.cell 3]; rfl, by rw [hb.cell 4]; rfl⟩)
  obtain ⟨R, hR⟩ : ∃ R, R = binE o l k m := ⟨_, rfl⟩
  rw [← hR]
  unfold binE at hR
  have HR := Lib.hid hR
  clear hR
  have HC := Lib.hid (fconn_any o l (.mk k z m s A n c es) W)
  have hcl := HCE.out W (Below.refl _ _)
  by_cases hA : o = 1 ∨ o = 2
  · have HE := Lib.hid (HR.out.trans (if_pos hA))
    rcases hA with rfl | rfl
    all_goals
      go_enter Try.func49, Try.ntmps49
      go_wp2_with fail
      rw [← hW]
      clear hW
      obtain ⟨d0, d1, d2, d3, d4⟩ := hcl
      go_wp2_with fail
      refine HC.out.mono ?_
      rintro e w2 ⟨rfl, hb2⟩
      go_wp2_with fail
      go_ret2
      exact ⟨by rw [HE.out]; rfl, HB.out.trans (hb2.mono HB.out.size)⟩
  have HN := Lib.hid (HR.out.trans (if_neg hA))
  clear HC
  by_cases hC : o = 3 ∨ o = 4 ∨ o = 5 ∨ o = 6 ∨ o = 7 ∨ o = 8
  · have HE := Lib.hid (HN.out.trans (if_pos hC))
    rcases hC with rfl | rfl | rfl | rfl | rfl | rfl
    all_goals
      go_enter Try.func49, Try.ntmps49
      go_wp2_with fail
      rw [← hW]
      clear hW hcl
      go_wp2_with fail
      refine wp_region_held_drew (S := Below W.heap.size W) (by kernel_rfl) (Below.refl _ W).drew (fun hHeld => ?_)
      refine held_take (i := 0) (fuel := 11) (v := ?_) (by rw [List.getElem?_toArray]; rfl) (by kernel_rfl) (by kernel_rfl) (by kernel_rfl) hHeld ?_ ?_ ?_ ?_
      rotate_left
      · intro u hSw
        go_simp
        try with_reducible rfl
      · rfl
      · exact fun _ _ _ h => h
      try simp only [Act.put, List.setIfInBounds_toArray, List.set_cons_zero, List.set_cons_succ]
      refine held_take (i := 1) (fuel := 10) (v := ?_) (by rw [List.getElem?_toArray]; rfl) (by kernel_rfl) (by kernel_rfl) (by kernel_rfl) hHeld ?_ ?_ ?_ ?_
      rotate_left
      · intro u hSw
        go_simp
        try with_reducible rfl
      · rfl
      · exact fun _ _ _ h => h
      try simp only [Act.put, List.setIfInBounds_toArray, List.set_cons_zero, List.set_cons_succ]
      refine held_take (i := 3) (fuel := 9) (v := ?_) (by rw [List.getElem?_toArray]; rfl) (by kernel_rfl) (by kernel_rfl) (by kernel_rfl) hHeld ?_ ?_ ?_ ?_
      rotate_left
      · intro u hSw
        go_simp
        try with_reducible rfl
      · rfl
      · exact fun _ _ _ h => h
      try simp only [Act.put, List.setIfInBounds_toArray, List.set_cons_zero, List.set_cons_succ]
      refine held_take (i := 4) (fuel := 8) (v := ?_) (by rw [List.getElem?_toArray]; rfl) (by kernel_rfl) (by kernel_rfl) (by kernel_rfl) hHeld ?_ ?_ ?_ ?_
      rotate_left
      · intro u hSw
        obtain ⟨d0, d1, d2, d3, d4⟩ := HCE.out u hSw
        go_simp
        try with_reducible rfl
      · rfl
      · exact fun _ _ _ h => h
      try simp only [Act.put, List.setIfInBounds_toArray, List.set_cons_zero, List.set_cons_succ]
      refine held_take (i := 8) (fuel := 7) (v := ?_) (by rw [List.getElem?_toArray]; rfl) (by kernel_rfl) (by kernel_rfl) (by kernel_rfl) hHeld ?_ ?_ ?_ ?_
      rotate_left
      · intro u hSw
        obtain ⟨d0, d1, d2, d3, d4⟩ := HCE.out u hSw
        go_simp
        try with_reducible rfl
      · rfl
      · exact fun _ _ _ h => h
      try simp only [Act.put, List.setIfInBounds_toArray, List.set_cons_zero, List.set_cons_succ]
      refine held_one (i := 2) (fuel := 6) (by kernel_rfl) (by rw [List.getElem?_toArray]; rfl) (fun K hK => ?_)
      go_simp
      refine (pWrap_any l _).mono ?_
      rintro e w3 ⟨rfl, rfl⟩
      refine hK.out _ _ ?_ (fun hHeld => ?_)
      · exact hHeld
      clear hK K
      try simp only [Act.put, List.setIfInBounds_toArray, List.set_cons_zero, List.set_cons_succ]
      refine held_one (i := 5) (fuel := 5) (by kernel_rfl) (by rw [List.getElem?_toArray]; rfl) (fun K hK => ?_)
      go_simp
      refine (pWrap_any m _).mono ?_
      rintro e w3 ⟨rfl, rfl⟩
      refine hK.out _ _ ?_ (fun hHeld => ?_)
      · exact hHeld
      clear hK K
      try simp only [Act.put, List.setIfInBounds_toArray, List.set_cons_zero, List.set_cons_succ]
      refine held_one (i := 6) (fuel := 4) (by kernel_rfl) (by rw [List.getElem?_toArray]; rfl) (fun K hK => ?_)
      go_simp
      refine (fcompared_any _ _ _ _).mono ?_
      rintro e w3 ⟨rfl, rfl⟩
      refine hK.out _ _ ?_ (fun hHeld => ?_)
      · exact hHeld
      clear hK K
      try simp only [Act.put, List.setIfInBounds_toArray, List.set_cons_zero, List.set_cons_succ]
      refine held_one (i := 7) (fuel := 3) (by kernel_rfl) (by rw [List.getElem?_toArray]; rfl) (fun K hK => ?_)
      go_simp
      refine (ftruth_any _ _).mono ?_
      rintro e w4 ⟨rfl, rfl⟩
      refine hK.out _ _ ?_ (fun hHeld => ?_)
      · exact hHeld
      clear hK K
      try simp only [Act.put, List.setIfInBounds_toArray, List.set_cons_zero, List.set_cons_succ]
      refine held_one (i := 9) (fuel := 2) (by kernel_rfl) (by rw [List.getElem?_toArray]; rfl) (fun K hK => ?_)
      go_simp
      refine (fisnum_any (.mk k z m s A n c es) _).mono ?_
      rintro e w5 ⟨rfl, hb5⟩
      refine hK.out _ _ ?_ (fun hHeld => ?_)
      · exact hHeld.trans (hb5.mono hHeld.size)
      clear hK K
      try simp only [Act.put, List.setIfInBounds_toArray, List.set_cons_zero, List.set_cons_succ]
      refine held_take (i := 10) (fuel := 1) (v := ?_) (by rw [List.getElem?_toArray]; rfl) (by kernel_rfl) (by kernel_rfl) (by kernel_rfl) hHeld ?_ ?_ ?_ ?_
      rotate_left
      · intro u hSw
        go_simp
        try with_reducible rfl
      · rfl
      · exact fun _ _ _ h => h
      try simp only [Act.put, List.setIfInBounds_toArray, List.set_cons_zero, List.set_cons_succ]
      refine held_take (i := 11) (fuel := 0) (v := ?_) (by rw [List.getElem?_toArray]; rfl) (by kernel_rfl) (by kernel_rfl) (by kernel_rfl) hHeld ?_ ?_ ?_ ?_
      rotate_left
      · intro u hSw
        go_simp
        try with_reducible rfl
      · rfl
      · exact fun _ _ _ h => h
      try simp only [Act.put, List.setIfInBounds_toArray, List.set_cons_zero, List.set_cons_succ]
      refine wpAnyH_done (by kernel_rfl) ?_ _
      have J6 := HB.out.trans (hHeld.mono HB.out.size)
      go_wp2_with fail
      go_ret2
      exact ⟨by rw [HE.out]; first | rfl | (rw [show decide (wrapV m ≠ 0) = !decide (wrapV m = 0) from by simp]; rfl), J6⟩
  have HM := Lib.hid (HN.out.trans (if_neg hC))
  by_cases hD : o = 10 ∨ o = 11 ∨ o = 12 ∨ o = 13 ∨ o = 14
  · have HE := Lib.hid (HM.out.trans (if_pos hD))
    have HV := Lib.hid (fcalc_any o l m W)
    obtain ⟨⟨v1, v2⟩, hv⟩ : ∃ v, v = calcV o l m := ⟨_, rfl⟩
    rw [← hv] at HE HV
    clear hv
    simp only at HE HV
    have q0 : (v2 == 0) = decide (v2 = 0) := beq_dec18 v2 0
    rcases hD with rfl | rfl | rfl | rfl | rfl
    all_goals
      go_enter Try.func49, Try.ntmps49
      go_wp2_with fail
      rw [← hW]
      clear hW
      obtain ⟨d0, d1, d2, d3, d4⟩ := hcl
      go_wp2_with fail
      refine HV.out.mono ?_
      rintro e w2 ⟨rfl, rfl⟩
      by_cases hv0 : v2 = 0
      · subst hv0
        clear q0
        go_wp2_with fail
        refine (fisnum_any (.mk k z m s A n c es) _).mono ?_
        rintro e w5 ⟨rfl, hb5⟩
        go_wp2_with fail
        go_ret2
        exact ⟨by rw [HE.out]; rfl, HB.out.trans (hb5.mono HB.out.size)⟩
      · have q1 : (v2 == 0) = false := by simp [hv0]
        clear q0
        go_wp2_with fail
        go_ret2
        exact ⟨by rw [HE.out, show decide (v2 = 0) = false from decide_eq_false hv0]; rfl, HB.out⟩
  have HE := Lib.hid (HM.out.trans (if_neg hD))
  have q1 : (o == 1) = false := by simp; omega
  have q2 : (o == 2) = false := by simp; omega
  have q3 : (o == 3) = false := by simp; omega
  have q4 : (o == 4) = false := by simp; omega
  have q5 : (o == 5) = false := by simp; omega
  have q6 : (o == 6) = false := by simp; omega
  have q7 : (o == 7) = false := by simp; omega
  have q8 : (o == 8) = false := by simp; omega
  have q10 : (o == 10) = false := by simp; omega
  have q11 : (o == 11) = false := by simp; omega
  have q12 : (o == 12) = false := by simp; omega
  have q13 : (o == 13) = false := by simp; omega
  have q14 : (o == 14) = false := by simp; omega
  go_enter Try.func49, Try.ntmps49
  go_wp2_with fail
  rw [← hW]
  clear hW hcl
  go_wp2_with fail
  go_ret2
  exact ⟨by rw [HE.out]; rfl, HB.out⟩

end

section
open Go.RowKit
set_option linter.unusedVariables false
set_option linter.unusedSimpArgs false

set_option maxRecDepth 100000 in
set_option maxHeartbeats 6400000 in
theorem fmap_of (es : List EL) (hE : ∀ x ∈ es, FoldAt 9 x) (S : Nat → Prop) (A : Option Addr) (n c : Nat) (w : World) (hrow : RowE w w.heap.size A n es) (hins : ∀ x ∈ es, x.In w w.heap.size) (hat : ∀ x ∈ es, x.At S) (hS : ∀ b, S b → b < w.heap.size) (hlen : n * 64 ≤ 140737488355328) (hlit : ∀ x ∈ es, litP (plE x)) :
    Calls Try.prog 26 #[.slice A n c, .func (.func 9) #[] #[]] w fun f w' => ∃ (A' : Option Addr) (c' : Nat) (ys : List EL), f = .returned (.slice A' n c') ∧ RowE w' w'.heap.size A' n ys ∧ (0 < n → ∀ ad : Addr, A' = some ad → w.heap.size ≤ ad.block) ∧ (∀ y ∈ ys, y.In w' w'.heap.size) ∧ (∀ y ∈ ys, y.At (fun b => S b ∨ w.heap.size ≤ b)) ∧
      ys.map plE = es.map (fun x => foldP (plE x)) ∧ Below w.heap.size w w' := by
  obtain ⟨i0, hi, hz0, hsz, hby⟩ := inf_parts inf_ex
  have hl := hrow.1
  have hn63 := hrow.2.1
  have HE := Lib.hid hE
  have HR := Lib.hid hrow
  have HIN := Lib.hid hins
  have HAT := Lib.hid hat
  have HSB := Lib.hid hS
  have HLT := Lib.hid hlit
  have HL := Lib.hid hl
  have HI := Lib.hid hi
  have HZ0 := Lib.hid hz0
  have HSZ := Lib.hid hsz
  have HBY := Lib.hid hby
  have HLE := Lib.hid hlen
  clear hE hrow hins hat hS hlit hl hi hz0 hsz hby
  go_enter Try.func26, Try.ntmps26
  go_wp2_with fail
  go_loopw [5, 10] (fun vo vi wr => ∃ (j cc : Nat) (AA : Option Addr) (ys : List EL), j ≤ n ∧ vi = .int .i64 j ∧ vo = .slice AA j cc ∧ Hid (wr.ownsRow w.heap.size 31 5 (.slice AA j cc) j (ecw ys)) ∧ Hid (∀ y ∈ ys, y.In wr wr.heap.size) ∧
    Hid (∀ y ∈ ys, y.At (fun b => (S b ∨ w.heap.size ≤ b) ∧ (Value.slice AA j cc).ownBlock ≠ some b)) ∧ Hid (ys.map plE = (es.take j).map (fun x => foldP (plE x))) ∧ Hid (Below w.heap.size w wr)) (fun _ vi _ => n - (intOf vi).toNat)
  case atStart => exact ⟨0, 0, none, [], Nat.zero_le _, rfl, rfl, Lib.hid (ownW_nil _ _ _), Lib.hid (by simp), Lib.hid (by simp), Lib.hid rfl, Lib.hid (Below.refl _ _)⟩
  case round =>
    obtain ⟨j, cc, AA, ys, hj, rfl, rfl, HO, HYI, HYA, HYM, HB⟩ := hrel
    by_cases hlt : j < n
    · obtain ⟨ad, rfl, _, hcell⟩ := row_at (HR.out.below HB.out) hlt
      obtain ⟨x, hx⟩ : ∃ x, x = es[j]?.getD nilE := ⟨_, rfl⟩
      obtain ⟨a0, a1, a2, a3, a4⟩ := hcell x hx
      have hjl : j < es.length := by rw [HL.out]; exact hlt
      have hmem : x ∈ es := by rw [hx, List.getElem?_eq_getElem hjl]; exact List.getElem_mem hjl
      have htk : es.take (j + 1) = es.take j ++ [x] := by rw [hx, List.getElem?_eq_getElem hjl, List.take_succ_eq_append_getElem hjl]; rfl
      have HTK := Lib.hid htk
      have HXI := Lib.hid ((HIN.out x hmem).below HB.out)
      have HXM := Lib.hid ((((HIN.out x hmem).below HB.out).more HB.out.size))
      have HXA := Lib.hid (HAT.out x hmem)
      have HXE := Lib.hid (HE.out x hmem)
      have HXL := Lib.hid (HLT.out x hmem)
      clear hx hcell hmem htk hjl
      obtain ⟨k, o, m, s, A1, n1, c1, es1⟩ := x
      simp only [EL.kind, EL.op, EL.num, EL.name, EL.A, EL.n, EL.c] at a0 a1 a2 a3 a4
      go_wp2_with (refine wpList_store_row rfl 31 _ _ rfl wr.heap.size #[.int .i64 k, .int .i64 o, .int .i64 m, .string (bs s), .slice A1 n1 c1] rfl rfl _ _ (Blk.new wr _ _) expr_size rfl (expr_one _ _ _ _ _ _ _) ?_; obtain ⟨V, hV⟩ : ∃ V, V = (wr.alloc (.cells #[.int .i64 0, .int .i64 0, .int .i64 0, .string ⟨#[]⟩, .slice none 0 0] 31)).setRow wr.heap.size #[.int .i64 k, .int .i64 o, .int .i64 m, .string (bs s), .slice A1 n1 c1] := ⟨_, rfl⟩; rw [← hV]; obtain ⟨hkV0, hbV0⟩ := put_row hV; have HKV := Lib.hid hkV0; have HBV := Lib.hid hbV0; clear hV hkV0 hbV0; have d0 : V.cell? ⟨wr.heap.size, 0, none⟩ = some (.int .i64 k) := HKV.out.cell 0; have d1 : V.cell? ⟨wr.heap.size, 1, none⟩ = some (.int .i64 o) := HKV.out.cell 1; have d2 : V.cell? ⟨wr.heap.size, 2, none⟩ = some (.int .i64 m) := HKV.out.cell 2; have d3 : V.cell? ⟨wr.heap.size, 3, none⟩ = some (.string (bs s)) := HKV.out.cell 3; have d4 : V.cell? ⟨wr.heap.size, 4, none⟩ = some (.slice A1 n1 c1) := HKV.out.cell 4)
      have HC2 : Hid (Calls Try.prog 9 #[.agg #[.int .i64 k, .int .i64 o, .int .i64 m, .string (bs s), .slice A1 n1 c1]] V fun e w' => ∃ y : EL, e = .returned (eVal y) ∧ y.In w' w'.heap.size ∧ y.At (fun b => S b ∨ V.heap.size ≤ b) ∧ plE y = foldP (plE (.mk k o m s A1 n1 c1 es1)) ∧ Below V.heap.size V w') := Lib.hid (HXE.out S V ((HXM.out.below HBV.out).more HBV.out.size) HXA.out HXL.out)
      clear a0 a1 a2 a3 a4
      refine HC2.out.mono ?_
      rintro e w2 ⟨y, rfl, hyI, hyA0, hyP, hb20⟩
      have hb2 : Below wr.heap.size wr w2 := HBV.out.trans (hb20.mono HBV.out.size)
      have hyA : y.At (fun b => S b ∨ wr.heap.size ≤ b) := hyA0.mono fun b hb => hb.imp id (fun h => Nat.le_trans HBV.out.size h)
      clear d0 d1 d2 d3 d4
      have HYI2 : Hid (∀ z ∈ ys ++ [y], z.In w2 w2.heap.size) := Lib.hid (fun z hz => by
        rcases List.mem_append.1 hz with hz | hz
        · exact ((HYI.out z hz).below hb2).more hb2.size
        · simp at hz
          subst hz
          exact hyI)
      have HO2 := Lib.hid (own_below HO.out hb2)
      have HYA2 : Hid (∀ z ∈ ys ++ [y], z.At (fun b => (S b ∨ w.heap.size ≤ b) ∧ (Value.slice AA j cc).ownBlock ≠ some b)) := Lib.hid (fun z hz => by
        rcases List.mem_append.1 hz with hz | hz
        · exact HYA.out z hz
        · simp at hz
          subst hz
          refine hyA.mono fun b hb => ?_
          have hown : ∀ g, (Value.slice AA j cc).ownBlock = some g → w.heap.size ≤ g ∧ g < wr.heap.size := fun g hg => HO.out.lt g hg
          rcases hb with hb | hb
          · exact ⟨.inl hb, fun e => by have := (hown b e).1; have := HSB.out b hb; omega⟩
          · exact ⟨.inr (Nat.le_trans HB.out.size hb), fun e => by have := (hown b e).2; omega⟩)
      have HYP := Lib.hid hyP
      have HB2 : Hid (Below w.heap.size w w2) := Lib.hid (HB.out.trans (hb2.mono HB.out.size))
      clear hyI hyA hyP hb2
      obtain ⟨k2, o2, m2, s2, A2, n2, c2, es2⟩ := y
      unfold eVal eCells
      simp only [EL.kind, EL.op, EL.num, EL.name, EL.A, EL.n, EL.c]
      have hj1 : (j + 1) * 64 ≤ 140737488355328 := by have := HLE.out; omega
      go_wp2_with (first | (at_builtin; refine wpList_appW _ rfl _ _ 29 rfl w.heap.size 31 i0 _ Try.underlying29 HI.out HZ0.out rfl HSZ.out HBY.out (.slice AA j cc) j ys rfl (HO2.out.alloc _) w2.heap.size 1 (.mk k2 o2 m2 s2 A2 n2 c2 es2) rfl (Blk.new w2 31 _) hj1 (by simp; have := HB2.out.size; omega) ?_; intro A' c' w3 hown hg hob) | go_in)
      obtain ⟨W, hW⟩ : ∃ W, W = w2.alloc (.cells #[.int .i64 k2, .int .i64 o2, .int .i64 m2, .string (bs s2), .slice A2 n2 c2] 31) := ⟨_, rfl⟩
      have hg' : W.grownBy w3 (Value.slice AA j cc).ownBlock := by rw [hW]; exact hg
      have hob' : (Value.slice A' (j + 1) c').ownBlock = (Value.slice AA j cc).ownBlock ∨ (Value.slice A' (j + 1) c').ownBlock = some W.heap.size := by rw [hW]; exact hob
      have hBW : Below w2.heap.size w2 W := by rw [hW]; exact (Below.refl _ _).alloc (Nat.le_refl _) _
      have HIW : ∀ z ∈ ys ++ [EL.mk k2 o2 m2 s2 A2 n2 c2 es2], z.In W W.heap.size := fun z hz => ((HYI2.out z hz).below hBW).more hBW.size
      have HO3 := Lib.hid hown
      have HI3 : Hid (∀ z ∈ ys ++ [EL.mk k2 o2 m2 s2 A2 n2 c2 es2], z.In w3 w3.heap.size) := Lib.hid (fun z hz => (HIW z hz).keepS hg'.size (fun p hp hlt => cell_of_heap (hg'.block p.block hlt (fun e => hp.2 e.symm))) (HYA2.out z hz))
      have HA3 : Hid (∀ z ∈ ys ++ [EL.mk k2 o2 m2 s2 A2 n2 c2 es2], z.At (fun b => (S b ∨ w.heap.size ≤ b) ∧ (Value.slice A' (j + 1) c').ownBlock ≠ some b)) := Lib.hid (fun z hz => by
        refine ((HYA2.out z hz).and (HIW z hz).atB).mono fun b hb => ⟨hb.1.1, ?_⟩
        rcases hob' with e | e
        · rw [e]
          exact hb.1.2
        · rw [e]
          exact some_ne (by have := hb.2; omega))
      have HP3 : Hid ((ys ++ [EL.mk k2 o2 m2 s2 A2 n2 c2 es2]).map plE = (es.take (j + 1)).map (fun x => foldP (plE x))) := Lib.hid (by
        rw [HTK.out, List.map_append, List.map_append, HYM.out]
        simp only [List.map_cons, List.map_nil]
        rw [HYP.out])
      have HB3 : Hid (Below w.heap.size w w3) := Lib.hid ((HB2.out.trans (hBW.mono HB2.out.size)).grown hg' (Nat.le_trans HB2.out.size hBW.size) (fun g e => (HO.out.lt g e).1))
      clear hown hg hob hg' hob' hBW HIW hW
      go_wp2_with fail
      go_roundw
      case rel => exact ⟨j + 1, c', A', _, by omega, by go_num, rfl, HO3, HI3, HA3, HP3, HB3⟩
      case measure => simp [intOf]; omega
    · obtain rfl : j = n := by omega
      have HYM2 : Hid (ys.map plE = es.map (fun x => foldP (plE x))) := Lib.hid (by rw [HYM.out, ← HL.out, List.take_length])
      go_wp2_with fail
      go_ret
      exact ⟨_, _, ys, rfl, rowW_of_own HO.out hn63, rowW_block HO.out, HYI.out, fun y hy => (HYA.out y hy).mono fun b hb => hb.1, HYM2.out, HB.out⟩

set_option maxRecDepth 100000 in
set_option maxHeartbeats 12800000 in
theorem feval_any (e : EL) (w : World) (hin : e.In w w.heap.size) : Calls Try.prog 27 #[eVal e] w fun f w' => f = .returned (.tuple #[.int .i64 (evalE (plE e)).1, .bool (evalE (plE e)).2]) ∧ Below w.heap.size w w' := by
  rw [plE_eq]
  obtain ⟨⟨_, _, hrow⟩, _⟩ := EL.In_eq.1 hin
  obtain ⟨k, o, m, s, A, n, c, es⟩ := e
  simp only [EL.kind, EL.op, EL.num, EL.name, EL.A, EL.n, EL.c, EL.args] at *
  show Calls Try.prog _ #[.agg #[.int .i64 k, .int .i64 o, .int .i64 m, .string (bs s), .slice A n c]] w _
  obtain ⟨R, hR⟩ : ∃ R, R = evalE (.mk k o m s (es.map plE)) := ⟨_, rfl⟩
  rw [← hR]
  obtain ⟨W, hW⟩ : ∃ W, W = w.alloc (.cells #[.int .i64 k, .int .i64 o, .int .i64 m, .string (bs s), .slice A n c] 31) := ⟨_, rfl⟩
  have HB : Hid (Below w.heap.size w W) := Lib.hid (by rw [hW]; exact (Below.refl _ _).alloc (Nat.le_refl _) _)
  have HK : Hid (Blk W w.heap.size 31 #[.int .i64 k, .int .i64 o, .int .i64 m, .string (bs s), .slice A n c]) := Lib.hid (by rw [hW]; exact Blk.new _ _ _)
  have HRW : Hid (RowE W W.heap.size A n es) := Lib.hid ((hrow.below HB.out).more HB.out.size)
  have hl : es.length = n := hrow.1
  have HCE : Hid (∀ u, Below W.heap.size W u → u.cell? ⟨w.heap.size, 0, none⟩ = some (.int .i64 k) ∧ u.cell? ⟨w.heap.size, 1, none⟩ = some (.int .i64 o) ∧ u.cell? ⟨w.heap.size, 2, none⟩ = some (.int .i64 m) ∧ u.cell? ⟨w.heap.size, 3, none⟩ = some (.string (bs s)) ∧ u.cell? ⟨w.heap.size, 4, none⟩ = some (.slice A n c)) := Lib.hid (fun u hu => by
    have hb := HK.out.below hu HK.out.lt
    exact ⟨by rw [hb.cell 0]; rfl, by rw [hb.cell 1]; rfl, by rw [hb.cell 2]; rfl, by rw [hb.cell 3]; rfl, by rw [hb.cell 4]; rfl⟩)
  have HW0 := Lib.hid hW
  have HR := Lib.hid hR
  clear hR hin hrow
  by_cases hn0 : n = 0
  · subst hn0
    obtain rfl : es = [] := List.eq_nil_of_length_eq_zero hl
    have HE : Hid (R = (0, false)) := Lib.hid (HR.out.trans rfl)
    obtain ⟨d0, d1, d2, d3, d4⟩ := HCE.out W (Below.refl _ _)
    rw [hW] at d0 d1 d2 d3 d4
    clear hW
    go_enter Try.func27, Try.ntmps27
    go_wp2_with fail
    go_ret2
    exact ⟨by rw [HE.out]; rfl, by rw [← HW0.out]; exact HB.out⟩
  have q0 : ((n : Int) == 0) = false := by rw [beq_dec18]; exact decide_eq_false (by omega)
  obtain ⟨x, hx⟩ : ∃ x, x = es[0]?.getD nilE := ⟨_, rfl⟩
  obtain ⟨r, hr⟩ : ∃ r, es = x :: r := by
    match es, hl with
    | [], h => exact absurd h.symm hn0
    | z :: r, _ => exact ⟨r, by rw [hx]; rfl⟩
  have HX := Lib.hid hx
  have HP1 : Hid (R = evalE (.mk k o m s (plE x :: r.map plE))) := Lib.hid (by rw [HR.out, hr]; rfl)
  have hrl : r.length + 1 = n := by rw [← hl, hr]; rfl
  obtain ⟨ad, rfl, _, hrow⟩ := row_at HRW.out (j := 0) (by omega)
  have HCX : Hid (∀ u, Below W.heap.size W u → u.cell? ad = some (.int .i64 x.kind) ∧ u.cell? ⟨ad.block, ad.off + 1, none⟩ = some (.int .i64 x.op) ∧ u.cell? ⟨ad.block, ad.off + 2, none⟩ = some (.int .i64 x.num) ∧ u.cell? ⟨ad.block, ad.off + 3, none⟩ = some (.string (bs x.name)) ∧ u.cell? ⟨ad.block, ad.off + 4, none⟩ = some (.slice x.A x.n x.c)) := Lib.hid (fun u hu => by
    obtain ⟨ad0, hd0, _, hc0⟩ := row_at (HRW.out.below hu) (j := 0) (by omega)
    obtain rfl : ad = ad0 := by injection hd0
    have := hc0 _ HX.out
    simp only [Nat.zero_mul, add_zeroF] at this
    exact this)
  clear hrow
  have HY : n = 2 → Hid (∃ y : EL, r = [y] ∧ ∀ u, Below W.heap.size W u → u.cell? ⟨ad.block, ad.off + 5, none⟩ = some (.int .i64 y.kind) ∧ u.cell? ⟨ad.block, ad.off + 5 + 1, none⟩ = some (.int .i64 y.op) ∧ u.cell? ⟨ad.block, ad.off + 5 + 2, none⟩ = some (.int .i64 y.num) ∧ u.cell? ⟨ad.block, ad.off + 5 + 3, none⟩ = some (.string (bs y.name)) ∧ u.cell? ⟨ad.block, ad.off + 5 + 4, none⟩ = some (.slice y.A y.n y.c)) := fun h2 => Lib.hid (by
    match r, hrl, hr with
    | [y], _, hr =>
      refine ⟨y, rfl, fun u hu => ?_⟩
      obtain ⟨ad0, hd0, _, hc0⟩ := row_at (HRW.out.below hu) (j := 1) (by omega)
      obtain rfl : ad = ad0 := by injection hd0
      have := hc0 y (by rw [hr]; rfl)
      simp only [Nat.one_mul] at this
      exact this
    | [], h, _ => exact absurd h (by simp; omega)
    | _ :: _ :: _, h, _ => exact absurd h (by simp; omega))
  have HRL := Lib.hid hrl
  obtain ⟨xk, xo, xm, xs, xA, xn, xc, xl⟩ := x
  simp only [EL.kind, EL.op, EL.num, EL.name, EL.A, EL.n, EL.c] at HCX
  have HE0 : Hid (R = if xk ≠ 1 then (0, false) else if k = 6 ∧ r.length = 1 then binE o xm ((r.map plE)[0]?.getD nilP).kind ((r.map plE)[0]?.getD nilP).num else if k = 5 ∧ r.length = 0 then (truthV (decide (wrapV xm = 0)), true) else if k = 4 ∧ r.length = 0 then (negV xm, true) else (0, false)) := Lib.hid (by
    rw [HP1.out, show plE (EL.mk xk xo xm xs xA xn xc xl) = PE.mk xk xo xm xs (xl.map plE) from plE_eq _]
    unfold evalE
    have e1 : (PE.mk k o m s (PE.mk xk xo xm xs (xl.map plE) :: r.map plE)).args = PE.mk xk xo xm xs (xl.map plE) :: r.map plE := rfl
    have e2 : (PE.mk k o m s (PE.mk xk xo xm xs (xl.map plE) :: r.map plE)).kind = k := rfl
    have e3 : (PE.mk k o m s (PE.mk xk xo xm xs (xl.map plE) :: r.map plE)).op = o := rfl
    have e4 : (PE.mk xk xo xm xs (xl.map plE)).kind = xk := rfl
    have e5 : (PE.mk xk xo xm xs (xl.map plE)).num = xm := rfl
    show (if (PE.mk k o m s (PE.mk xk xo xm xs (xl.map plE) :: r.map plE)).args.length = 0 ∨ ((PE.mk k o m s (PE.mk xk xo xm xs (xl.map plE) :: r.map plE)).args[0]?.getD nilP).kind ≠ 1 then _ else _) = _
    rw [e1, e2, e3]
    simp only [List.length_cons, List.length_map, List.getElem?_cons_zero, List.getElem?_cons_succ, Option.getD_some, e4, e5]
    simp)
  obtain ⟨d0, d1, d2, d3, d4⟩ := HCE.out W (Below.refl _ _)
  obtain ⟨x0, x1, x2, x3, x4⟩ := HCX.out W (Below.refl _ _)
  rw [hW] at d0 d1 d2 d3 d4 x0 x1 x2 x3 x4
  clear hW
  clear hx hr hrl hl HX HP1 HR
  go_enter Try.func27, Try.ntmps27
  go_wp2_with fail
  refine (fisnum_any (EL.mk xk xo xm xs xA xn xc xl) _).mono ?_
  rintro e w5 ⟨he, hb5⟩
  rw [← HW0.out] at hb5
  have HB5 := Lib.hid (HB.out.trans (hb5.mono HB.out.size))
  clear d0 d1 d2 d3 d4 x0 x1 x2 x3 x4
  by_cases hx1 : xk = 1
  · rw [show decide ((EL.mk xk xo xm xs xA xn xc xl).kind = 1) = true from decide_eq_true hx1] at he
    subst he
    have HE1 := Lib.hid (HE0.out.trans (if_neg (fun h => h hx1)))
    clear hx1
    obtain ⟨d0, d1, d2, d3, d4⟩ := HCE.out w5 hb5
    obtain ⟨x0, x1, x2, x3, x4⟩ := HCX.out w5 hb5
    have q5 : (k == 5) = decide (k = 5) := beq_dec18 k 5
    by_cases h62 : k = 6 ∧ n = 2
    · obtain ⟨rfl, rfl⟩ := h62
      obtain ⟨⟨yk, yo, ym, ys, yA, yn, yc, yl⟩, rfl, HYC⟩ := (HY rfl).out
      have HE := Lib.hid (HE1.out.trans (if_pos ⟨rfl, rfl⟩))
      rw [show (([EL.mk yk yo ym ys yA yn yc yl].map plE)[0]?.getD nilP) = plE (.mk yk yo ym ys yA yn yc yl) from rfl, plE_eq] at HE
      simp only [EL.kind, EL.op, EL.num, EL.name, EL.A, EL.n, EL.c, EL.args] at HYC HE
      have HC2 : Hid (∀ u, Below w5.heap.size w5 u → _) := Lib.hid (fun u hu => by
        have hu' : Below W.heap.size W u := hb5.trans (hu.mono hb5.size)
        obtain ⟨d0, d1, d2, d3, d4⟩ := HCE.out u hu'
        obtain ⟨x0, x1, x2, x3, x4⟩ := HCX.out u hu'
        obtain ⟨y0, y1, y2, y3, y4⟩ := HYC u hu'
        exact And.intro d0 (And.intro d1 (And.intro d2 (And.intro d3 (And.intro d4 (And.intro x0 (And.intro x1 (And.intro x2 (And.intro x3 (And.intro x4 (And.intro y0 (And.intro y1 (And.intro y2 (And.intro y3 y4))))))))))))))
      clear HYC
      go_wp2_with fail
      refine wp_region_held_drew (S := Below w5.heap.size w5) (by kernel_rfl) (Below.refl _ w5).drew (fun hHeld => ?_)
      refine held_take (i := 0) (fuel := 15) (v := ?_) (by rw [List.getElem?_toArray]; rfl) (by kernel_rfl) (by kernel_rfl) (by kernel_rfl) hHeld ?_ ?_ ?_ ?_
      rotate_left
      · intro u hSw
        go_simp
        try with_reducible rfl
      · rfl
      · exact fun _ _ _ h => h
      try simp only [Act.put, List.setIfInBounds_toArray, List.set_cons_zero, List.set_cons_succ]
      refine held_take (i := 1) (fuel := 14) (v := ?_) (by rw [List.getElem?_toArray]; rfl) (by kernel_rfl) (by kernel_rfl) (by kernel_rfl) hHeld ?_ ?_ ?_ ?_
      rotate_left
      · intro u hSw
        obtain ⟨d0, d1, d2, d3, d4, x0, x1, x2, x3, x4, y0, y1, y2, y3, y4⟩ := HC2.out u hSw
        go_simp
        try with_reducible rfl
      · rfl
      · exact fun _ _ _ h => h
      try simp only [Act.put, List.setIfInBounds_toArray, List.set_cons_zero, List.set_cons_succ]
      refine held_take (i := 2) (fuel := 13) (v := ?_) (by rw [List.getElem?_toArray]; rfl) (by kernel_rfl) (by kernel_rfl) (by kernel_rfl) hHeld ?_ ?_ ?_ ?_
      rotate_left
      · intro u hSw
        go_simp
        try with_reducible rfl
      · rfl
      · exact fun _ _ _ h => h
      try simp only [Act.put, List.setIfInBounds_toArray, List.set_cons_zero, List.set_cons_succ]
      refine held_take (i := 3) (fuel := 12) (v := ?_) (by rw [List.getElem?_toArray]; rfl) (by kernel_rfl) (by kernel_rfl) (by kernel_rfl) hHeld ?_ ?_ ?_ ?_
      rotate_left
      · intro u hSw
        obtain ⟨d0, d1, d2, d3, d4, x0, x1, x2, x3, x4, y0, y1, y2, y3, y4⟩ := HC2.out u hSw
        go_simp
        try with_reducible rfl
      · rfl
      · exact fun _ _ _ h => h
      try simp only [Act.put, List.setIfInBounds_toArray, List.set_cons_zero, List.set_cons_succ]
      refine held_take (i := 4) (fuel := 11) (v := ?_) (by rw [List.getElem?_toArray]; rfl) (by kernel_rfl) (by kernel_rfl) (by kernel_rfl) hHeld ?_ ?_ ?_ ?_
      rotate_left
      · intro u hSw
        go_simp
        try with_reducible rfl
      · rfl
      · exact fun _ _ _ h => h
      try simp only [Act.put, List.setIfInBounds_toArray, List.set_cons_zero, List.set_cons_succ]
      refine held_take (i := 5) (fuel := 10) (v := ?_) (by rw [List.getElem?_toArray]; rfl) (by kernel_rfl) (by kernel_rfl) (by kernel_rfl) hHeld ?_ ?_ ?_ ?_
      rotate_left
      · intro u hSw
        go_simp
        try with_reducible rfl
      · rfl
      · exact fun _ _ _ h => h
      try simp only [Act.put, List.setIfInBounds_toArray, List.set_cons_zero, List.set_cons_succ]
      refine held_take (i := 6) (fuel := 9) (v := ?_) (by rw [List.getElem?_toArray]; rfl) (by kernel_rfl) (by kernel_rfl) (by kernel_rfl) hHeld ?_ ?_ ?_ ?_
      rotate_left
      · intro u hSw
        obtain ⟨d0, d1, d2, d3, d4, x0, x1, x2, x3, x4, y0, y1, y2, y3, y4⟩ := HC2.out u hSw
        go_simp
        try with_reducible rfl
      · rfl
      · exact fun _ _ _ h => h
      try simp only [Act.put, List.setIfInBounds_toArray, List.set_cons_zero, List.set_cons_succ]
      refine held_take (i := 7) (fuel := 8) (v := ?_) (by rw [List.getElem?_toArray]; rfl) (by kernel_rfl) (by kernel_rfl) (by kernel_rfl) hHeld ?_ ?_ ?_ ?_
      rotate_left
      · intro u hSw
        go_simp
        try with_reducible rfl
      · rfl
      · exact fun _ _ _ h => h
      try simp only [Act.put, List.setIfInBounds_toArray, List.set_cons_zero, List.set_cons_succ]
      refine held_take (i := 8) (fuel := 7) (v := ?_) (by rw [List.getElem?_toArray]; rfl) (by kernel_rfl) (by kernel_rfl) (by kernel_rfl) hHeld ?_ ?_ ?_ ?_
      rotate_left
      · intro u hSw
        obtain ⟨d0, d1, d2, d3, d4, x0, x1, x2, x3, x4, y0, y1, y2, y3, y4⟩ := HC2.out u hSw
        go_simp
        try with_reducible rfl
      · rfl
      · exact fun _ _ _ h => h
      try simp only [Act.put, List.setIfInBounds_toArray, List.set_cons_zero, List.set_cons_succ]
      refine held_take (i := 9) (fuel := 6) (v := ?_) (by rw [List.getElem?_toArray]; rfl) (by kernel_rfl) (by kernel_rfl) (by kernel_rfl) hHeld ?_ ?_ ?_ ?_
      rotate_left
      · intro u hSw
        go_simp
        try with_reducible rfl
      · rfl
      · exact fun _ _ _ h => h
      try simp only [Act.put, List.setIfInBounds_toArray, List.set_cons_zero, List.set_cons_succ]
      refine held_take (i := 10) (fuel := 5) (v := ?_) (by rw [List.getElem?_toArray]; rfl) (by kernel_rfl) (by kernel_rfl) (by kernel_rfl) hHeld ?_ ?_ ?_ ?_
      rotate_left
      · intro u hSw
        obtain ⟨d0, d1, d2, d3, d4, x0, x1, x2, x3, x4, y0, y1, y2, y3, y4⟩ := HC2.out u hSw
        go_simp
        try with_reducible rfl
      · rfl
      · exact fun _ _ _ h => h
      try simp only [Act.put, List.setIfInBounds_toArray, List.set_cons_zero, List.set_cons_succ]
      refine held_one (i := 11) (fuel := 4) (by kernel_rfl) (by rw [List.getElem?_toArray]; rfl) (fun K hK => ?_)
      go_simp
      refine (fbin_any o xm (.mk yk yo ym ys yA yn yc yl) _).mono ?_
      rintro e w9 ⟨rfl, hb9⟩
      refine hK.out _ _ ?_ (fun hHeld => ?_)
      · exact hHeld.trans (hb9.mono hHeld.size)
      clear hK K
      try simp only [Act.put, List.setIfInBounds_toArray, List.set_cons_zero, List.set_cons_succ]
      refine held_take (i := 12) (fuel := 3) (v := ?_) (by rw [List.getElem?_toArray]; rfl) (by kernel_rfl) (by kernel_rfl) (by kernel_rfl) hHeld ?_ ?_ ?_ ?_
      rotate_left
      · intro u hSw
        go_simp
        try with_reducible rfl
      · rfl
      · exact fun _ _ _ h => h
      try simp only [Act.put, List.setIfInBounds_toArray, List.set_cons_zero, List.set_cons_succ]
      refine held_take (i := 13) (fuel := 2) (v := ?_) (by rw [List.getElem?_toArray]; rfl) (by kernel_rfl) (by kernel_rfl) (by kernel_rfl) hHeld ?_ ?_ ?_ ?_
      rotate_left
      · intro u hSw
        go_simp
        try with_reducible rfl
      · rfl
      · exact fun _ _ _ h => h
      try simp only [Act.put, List.setIfInBounds_toArray, List.set_cons_zero, List.set_cons_succ]
      refine held_take (i := 14) (fuel := 1) (v := ?_) (by rw [List.getElem?_toArray]; rfl) (by kernel_rfl) (by kernel_rfl) (by kernel_rfl) hHeld ?_ ?_ ?_ ?_
      rotate_left
      · intro u hSw
        go_simp
        try with_reducible rfl
      · rfl
      · exact fun _ _ _ h => h
      try simp only [Act.put, List.setIfInBounds_toArray, List.set_cons_zero, List.set_cons_succ]
      refine held_take (i := 15) (fuel := 0) (v := ?_) (by rw [List.getElem?_toArray]; rfl) (by kernel_rfl) (by kernel_rfl) (by kernel_rfl) hHeld ?_ ?_ ?_ ?_
      rotate_left
      · intro u hSw
        go_simp
        try with_reducible rfl
      · rfl
      · exact fun _ _ _ h => h
      try simp only [Act.put, List.setIfInBounds_toArray, List.set_cons_zero, List.set_cons_succ]
      refine wpAnyH_done (by kernel_rfl) ?_ _
      have J6 := HB5.out.trans (hHeld.mono HB5.out.size)
      go_wp2_with fail
      go_ret2
      exact ⟨by rw [HE.out]; rfl, J6⟩
    have HE2 := Lib.hid (HE1.out.trans (if_neg (fun h => h62 ⟨h.1, by have := HRL.out; omega⟩)))
    by_cases h51 : k = 5 ∧ n = 1
    · obtain ⟨rfl, rfl⟩ := h51
      have HE := Lib.hid (HE2.out.trans (if_pos ⟨rfl, by have := HRL.out; omega⟩))
      go_wp2_with fail
      refine (ftrue_any xm _).mono ?_
      rintro e w9 ⟨rfl, rfl⟩
      go_wp2_with fail
      have qq : (!decide (wrapV xm ≠ 0)) = decide (wrapV xm = 0) := by by_cases h : wrapV xm = 0 <;> simp [h]
      refine ((by first | exact ftruth_any (decide (wrapV xm = 0)) _ | (rw [qq]; exact ftruth_any (decide (wrapV xm = 0)) _) | (simp; exact ftruth_any (decide (wrapV xm = 0)) _) : Calls _ _ _ _ _)).mono ?_
      rintro e w9 ⟨rfl, rfl⟩
      go_wp2_with fail
      go_ret2
      exact ⟨by rw [HE.out]; rfl, HB5.out⟩
    have HE3 := Lib.hid (HE2.out.trans (if_neg (fun h => h51 ⟨h.1, by have := HRL.out; omega⟩)))
    by_cases h41 : k = 4 ∧ n = 1
    · obtain ⟨rfl, rfl⟩ := h41
      have HE := Lib.hid (HE3.out.trans (if_pos ⟨rfl, by have := HRL.out; omega⟩))
      go_wp2_with fail
      refine (pNeg_any xm _).mono ?_
      rintro e w9 ⟨rfl, rfl⟩
      go_wp2_with fail
      go_ret2
      exact ⟨by rw [HE.out]; rfl, HB5.out⟩
    have HE := Lib.hid (HE3.out.trans (if_neg (fun h => h41 ⟨h.1, by have := HRL.out; omega⟩)))
    clear q5
    by_cases hk6 : k = 6
    · subst hk6
      have q2 : ((n : Int) == 2) = false := by rw [beq_dec18]; exact decide_eq_false (fun h => h62 ⟨rfl, by omega⟩)
      go_wp2_with fail
      go_ret2
      exact ⟨by rw [HE.out]; rfl, HB5.out⟩
    have p6 : (k == 6) = false := by rw [beq_dec18]; exact decide_eq_false hk6
    by_cases hk5 : k = 5
    · subst hk5
      have q2 : ((n : Int) == 1) = false := by rw [beq_dec18]; exact decide_eq_false (fun h => h51 ⟨rfl, by omega⟩)
      go_wp2_with fail
      go_ret2
      exact ⟨by rw [HE.out]; rfl, HB5.out⟩
    have p5 : (k == 5) = false := by rw [beq_dec18]; exact decide_eq_false hk5
    by_cases hk4 : k = 4
    · subst hk4
      have q2 : ((n : Int) == 1) = false := by rw [beq_dec18]; exact decide_eq_false (fun h => h41 ⟨rfl, by omega⟩)
      go_wp2_with fail
      go_ret2
      exact ⟨by rw [HE.out]; rfl, HB5.out⟩
    have p4 : (k == 4) = false := by rw [beq_dec18]; exact decide_eq_false hk4
    go_wp2_with fail
    go_ret2
    exact ⟨by rw [HE.out]; rfl, HB5.out⟩
  · rw [show decide ((EL.mk xk xo xm xs xA xn xc xl).kind = 1) = false from decide_eq_false hx1] at he
    subst he
    have HE := Lib.hid (HE0.out.trans (if_pos hx1))
    go_wp2_with fail
    go_ret2
    exact ⟨by rw [HE.out]; rfl, HB5.out⟩

end

section
open Go.RowKit
set_option linter.unusedVariables false
set_option linter.unusedSimpArgs false

/-- what the walk of Expr holds behind all: the result's cell, what is made, the folded arguments -/
structure FSx (w V : World) (k o m : Int) (s : List UInt8) (A : Option Addr) (n c : Nat) (ys : List EL) : Prop where
  bx : Blk V (w.heap.size + 2) 31 #[.int .i64 k, .int .i64 o, .int .i64 m, .string (bs s), .slice A n c]
  rs : Blk V (w.heap.size + 1) 31 #[.int .i64 0, .int .i64 0, .int .i64 0, .string ⟨#[]⟩, .slice none 0 0]
  row : RowE V V.heap.size A n ys
  yI : ∀ y ∈ ys, y.In V V.heap.size
  blw : Below w.heap.size w V

theorem FSx.below {w V V' : World} {k o m : Int} {s : List UInt8} {A : Option Addr} {n c : Nat} {ys : List EL} (h : FSx w V k o m s A n c ys) (hb : Below V.heap.size V V') : FSx w V' k o m s A n c ys :=
  ⟨h.bx.below hb h.bx.lt, h.rs.below hb h.rs.lt, (h.row.below hb).more hb.size, fun y hy => ((h.yI y hy).below hb).more hb.size, h.blw.trans (hb.mono h.blw.size)⟩
theorem FSx.inn {w V : World} {k o m : Int} {s : List UInt8} {A : Option Addr} {n c : Nat} {ys : List EL} (h : FSx w V k o m s A n c ys) (hm : -9223372036854775808 ≤ m ∧ m ≤ 9223372036854775807) (hs : (s.length : Int) ≤ 9223372036854775807) : (EL.mk k o m s A n c ys).In V V.heap.size :=
  EL.In_eq.2 ⟨⟨hm, hs, h.row⟩, h.yI⟩

/-- the expression is handed back, its arguments folded -/
theorem exprx_out {w V : World} {S : Nat → Prop} {p : PE} {k o m : Int} {s : List UInt8} {A : Option Addr} {n c : Nat} {ys : List EL} (h : FSx w V k o m s A n c ys) (hA : 0 < n → ∀ ad : Addr, A = some ad → (S ad.block ∧ ad.block < w.heap.size) ∨ w.heap.size + 3 ≤ ad.block)
    (hYA : ∀ y ∈ ys, y.At (fun b => (S b ∧ b < w.heap.size) ∨ w.heap.size + 3 ≤ b)) (hm : -9223372036854775808 ≤ m ∧ m ≤ 9223372036854775807) (hs : (s.length : Int) ≤ 9223372036854775807) (hp : p = .mk k o m s (ys.map plE)) (cs : Array Value) :
    ∃ y : EL, Ending.returned (.agg #[.int .i64 k, .int .i64 o, .int .i64 m, .string (bs s), .slice A n c]) = .returned (eVal y) ∧ y.In (V.setRow (w.heap.size + 1) cs) (V.setRow (w.heap.size + 1) cs).heap.size ∧ y.At (fun b => S b ∨ w.heap.size ≤ b) ∧ plE y = p ∧ Below w.heap.size w (V.setRow (w.heap.size + 1) cs) := by
  have hk : ∀ q : Addr, (S q.block ∧ q.block < w.heap.size ∨ w.heap.size + 3 ≤ q.block) → q.block < V.heap.size → (V.setRow (w.heap.size + 1) cs).cell? q = V.cell? q := fun q hq _ => cell_setRow_other _ _ _ _ (by omega)
  have hsz : V.heap.size ≤ (V.setRow (w.heap.size + 1) cs).heap.size := by rw [size_setRow]; exact Nat.le_refl _
  refine ⟨.mk k o m s A n c ys, rfl, EL.In_eq.2 ⟨⟨hm, hs, h.row.keepS (S := fun b => (S b ∧ b < w.heap.size) ∨ w.heap.size + 3 ≤ b) hA hsz hk⟩, fun y hy => (h.yI y hy).keepS (S := fun b => (S b ∧ b < w.heap.size) ∨ w.heap.size + 3 ≤ b) hsz hk (hYA y hy)⟩, EL.At_eq.2 ⟨fun hn ad had => ?_, fun y hy => (hYA y hy).mono fun b hb => ?_⟩, ?_, below_setRow h.blw (Nat.le_succ _) _⟩
  · rcases hA hn ad had with hb | hb
    · exact .inl hb.1
    · exact .inr (by omega)
  · rcases hb with hb | hb
    · exact .inl hb.1
    · exact .inr (by omega)
  · rw [plE_eq, hp]
    rfl

set_option maxRecDepth 100000 in
set_option maxHeartbeats 12800000 in
theorem fexpr_of (e : EL) (ih : ∀ x ∈ e.args, FoldAt 9 x) : FoldAt 9 e := by
  intro S0 w hin hat0 hlit
  have hat : e.At (fun b => S0 b ∧ b < w.heap.size) := hat0.and hin.atB
  rw [plE_eq] at hlit ⊢
  rw [litP_eq] at hlit
  rw [foldP_eq]
  obtain ⟨hA, hAs⟩ := EL.At_eq.1 hat
  obtain ⟨⟨hnum, hname, hrow⟩, hIs⟩ := EL.In_eq.1 hin
  have HALL := Lib.hid (fmap_of e.args ih (fun b => S0 b ∧ b < w.heap.size) e.A e.n e.c)
  obtain ⟨k, o, m, s, A, n, c, es⟩ := e
  simp only [EL.kind, EL.op, EL.num, EL.name, EL.A, EL.n, EL.c, EL.args] at *
  simp only [PE.kind, PE.op, PE.num, PE.name, PE.args] at hlit ⊢
  show Calls Try.prog _ #[.agg #[.int .i64 k, .int .i64 o, .int .i64 m, .string (bs s), .slice A n c]] w _
  obtain ⟨P, hP⟩ : ∃ P, P = stepF (.mk k o m s ((es.map plE).map foldP)) := ⟨_, rfl⟩
  rw [← hP]
  have HP0 := Lib.hid hP
  clear hP
  have hn : es.length = n := hrow.1
  have hlen : n * 64 ≤ 140737488355328 := by have := hlit.1; rw [List.length_map, hn] at this; exact this
  have hlits : ∀ x ∈ es, litP (plE x) := fun x hx => hlit.2 _ (List.mem_map.2 ⟨x, hx, rfl⟩)
  obtain ⟨W1, hW1⟩ : ∃ W, W = w.alloc (.cells #[.int .i64 k, .int .i64 o, .int .i64 m, .string (bs s), .slice A n c] 31) := ⟨_, rfl⟩
  obtain ⟨W2, hW2⟩ : ∃ W, W = W1.alloc (.cells #[.int .i64 0, .int .i64 0, .int .i64 0, .string ⟨#[]⟩, .slice none 0 0] 31) := ⟨_, rfl⟩
  have hs1 : W1.heap.size = w.heap.size + 1 := by rw [hW1]; simp
  have hs2 : W2.heap.size = w.heap.size + 2 := by rw [hW2]; simp [hs1]
  have HB2 : Hid (Below w.heap.size w W2) := Lib.hid (by rw [hW2, hW1]; exact ((Below.refl _ _).alloc (Nat.le_refl _) _).alloc (by simp) _)
  have HX2 : Hid (Blk W2 w.heap.size 31 #[.int .i64 k, .int .i64 o, .int .i64 m, .string (bs s), .slice A n c]) := Lib.hid (by
    rw [hW2]
    refine Blk.alloc ?_ _
    rw [hW1]
    exact Blk.new _ _ _)
  have HR2 : Hid (Blk W2 (w.heap.size + 1) 31 #[.int .i64 0, .int .i64 0, .int .i64 0, .string ⟨#[]⟩, .slice none 0 0]) := Lib.hid (by rw [hW2]; exact Blk.new_at _ _ _ _ hs1.symm)
  have HS2 := Lib.hid hs2
  have HIN2 : Hid (RowE W2 W2.heap.size A n es ∧ ∀ x ∈ es, x.In W2 W2.heap.size) := Lib.hid ⟨(hrow.below HB2.out).more HB2.out.size, fun x hx => ((hIs x hx).below HB2.out).more HB2.out.size⟩
  have HAS := Lib.hid hAs
  have HLT := Lib.hid hlits
  have HNM := Lib.hid hnum
  have HNA := Lib.hid hname
  have HN := Lib.hid hn
  have HA := Lib.hid hA
  have HLE := Lib.hid hlen
  clear ih hin hat hat0 hlit hA hAs hnum hname hrow hIs hlits hn hs1 hs2
  have b0 := HX2.out.cell 0
  have b1 := HX2.out.cell 1
  have b2 := HX2.out.cell 2
  have b3 := HX2.out.cell 3
  have b4 := HX2.out.cell 4
  simp at b0 b1 b2 b3 b4
  rw [hW2, hW1] at b0 b1 b2 b3 b4
  go_enter Try.func9, Try.ntmps9
  go_wp2_with (rw [← hW1, ← hW2]; refine wpList_store_row rfl 31 _ _ rfl (w.heap.size + 2) #[.int .i64 k, .int .i64 o, .int .i64 m, .string (bs s), .slice A n c] rfl rfl _ _ (Blk.new_at W2 _ _ _ HS2.out.symm) expr_size rfl (expr_one _ _ _ _ _ _ _) ?_; obtain ⟨V, hV⟩ : ∃ V, V = (W2.alloc (.cells #[.int .i64 0, .int .i64 0, .int .i64 0, .string ⟨#[]⟩, .slice none 0 0] 31)).setRow (w.heap.size + 2) #[.int .i64 k, .int .i64 o, .int .i64 m, .string (bs s), .slice A n c] := ⟨_, rfl⟩; rw [← hV]; obtain ⟨hkV0, hbV0⟩ := put_row (W := W2) (V := V) (by rw [HS2.out]; exact hV); have HKV := Lib.hid hkV0; have HBV := Lib.hid hbV0; clear hV hkV0 hbV0; have e4 : V.cell? ⟨w.heap.size, 4, none⟩ = some (.slice A n c) := (HX2.out.below HBV.out HX2.out.lt).cell 4)
  clear hW1 hW2
  have HC := Lib.hid (HALL.out V ((HIN2.out.1.below HBV.out).more HBV.out.size) (fun x hx => ((HIN2.out.2 x hx).below HBV.out).more HBV.out.size) HAS.out (fun b hb => Nat.lt_of_lt_of_le hb.2 (Nat.le_trans HB2.out.size HBV.out.size)) HLE.out HLT.out)
  clear b0 b1 b2 b3 b4 e4
  refine HC.out.mono ?_
  rintro e w3 ⟨A', c', ys, rfl, hry, hryb, hyI, hyA, hyP, hb3⟩
  have HSV : Hid (w.heap.size + 3 ≤ V.heap.size) := Lib.hid (by have := HKV.out.lt; have := HS2.out; omega)
  have HX3 : Hid (Blk w3 (w.heap.size + 2) 31 #[.int .i64 k, .int .i64 o, .int .i64 m, .string (bs s), .slice A n c]) := Lib.hid (by have := HKV.out.below hb3 HKV.out.lt; rw [HS2.out] at this; exact this)
  have HR3 := Lib.hid ((HR2.out.below HBV.out HR2.out.lt).below hb3 (Nat.lt_of_lt_of_le HR2.out.lt HBV.out.size))
  have HB3 := Lib.hid (HB2.out.trans ((HBV.out.mono HB2.out.size).trans (hb3.mono (Nat.le_trans HB2.out.size HBV.out.size))))
  obtain ⟨W4, hW4⟩ : ∃ W, W = w3.setCell ⟨w.heap.size + 2, 4, none⟩ (.slice A' n c') := ⟨_, rfl⟩
  have hz4 : ∀ p : Addr, ((S0 p.block ∧ p.block < w.heap.size) ∨ w.heap.size + 3 ≤ p.block) → p.block < w3.heap.size → W4.cell? p = w3.cell? p := fun p hp _ => by rw [hW4]; exact cell_of_heap (Below.heap_setCell _ _ _ _ (by show p.block ≠ w.heap.size + 2; omega))
  have hsz4 : W4.heap.size = w3.heap.size := by rw [hW4]; simp [World.setCell]
  have hryb' : 0 < n → ∀ ad : Addr, A' = some ad → (S0 ad.block ∧ ad.block < w.heap.size) ∨ w.heap.size + 3 ≤ ad.block := fun h0 ad had => .inr (by have := hryb h0 ad had; have := HSV.out; omega)
  have hyA' : ∀ y ∈ ys, y.At (fun b => (S0 b ∧ b < w.heap.size) ∨ w.heap.size + 3 ≤ b) := fun y hy => (hyA y hy).mono fun b hb => by
    rcases hb with hb | hb
    · exact .inl hb
    · exact .inr (by have := HSV.out; omega)
  have HST : Hid (FSx w W4 k o m s A' n c' ys) := Lib.hid ⟨by rw [hW4]; exact HX3.out.set_ 4 _, by rw [hW4]; exact HR3.out.far (by show w.heap.size + 1 ≠ w.heap.size + 2; omega) _, hry.keepS (S := fun b => (S0 b ∧ b < w.heap.size) ∨ w.heap.size + 3 ≤ b) hryb' (by omega) hz4, fun y hy => (hyI y hy).keepS (S := fun b => (S0 b ∧ b < w.heap.size) ∨ w.heap.size + 3 ≤ b) (by omega) hz4 (hyA' y hy), by rw [hW4]; exact HB3.out.setCell (p := ⟨w.heap.size + 2, 4, none⟩) (by show w.heap.size ≤ w.heap.size + 2; omega) _⟩
  have HRB := Lib.hid hryb'
  have HYA := Lib.hid hyA'
  have HP : Hid (P = stepF (.mk k o m s (ys.map plE))) := Lib.hid (by rw [HP0.out, hyP, List.map_map]; rfl)
  have g4 := HX3.out.cell 4
  have f4 := HX3.out.frozen 4
  simp at g4
  have d0 := HST.out.bx.cell 0
  have d1 := HST.out.bx.cell 1
  have d2 := HST.out.bx.cell 2
  have d3 := HST.out.bx.cell 3
  have d4 := HST.out.bx.cell 4
  simp at d0 d1 d2 d3 d4
  rw [hW4] at d0 d1 d2 d3 d4
  have HC9 := Lib.hid (feval_any (EL.mk k o m s A' n c' ys) W4 (HST.out.inn HNM.out HNA.out))
  rw [hW4] at HC9
  clear hry hryb hyI hyA hyP hz4 hsz4 hryb' hyA' hb3
  go_wp2_with fail
  refine HC9.out.mono ?_
  rintro e w5 ⟨he, hb5⟩
  rw [← hW4] at hb5
  have H5 := Lib.hid (HST.out.below hb5)
  clear d0 d1 d2 d3 d4 g4 f4 hb5 HC9
  have HPL : Hid (plE (EL.mk k o m s A' n c' ys) = .mk k o m s (ys.map plE)) := Lib.hid (plE_eq _)
  have HV := Lib.hid (evalE_range (plE (EL.mk k o m s A' n c' ys)))
  have HP9 : Hid (P = if (evalE (plE (EL.mk k o m s A' n c' ys))).2 = true then numP (evalE (plE (EL.mk k o m s A' n c' ys))).1 else .mk k o m s (ys.map plE)) := Lib.hid (by rw [HP.out, evalE_step, HPL.out])
  obtain ⟨⟨v1, v2⟩, hv⟩ : ∃ v, v = evalE (plE (EL.mk k o m s A' n c' ys)) := ⟨_, rfl⟩
  rw [← hv] at he HV HP9
  clear hv
  simp only at he HV HP9
  subst he
  have d0 := H5.out.bx.cell 0
  have d1 := H5.out.bx.cell 1
  have d2 := H5.out.bx.cell 2
  have d3 := H5.out.bx.cell 3
  have d4 := H5.out.bx.cell 4
  simp at d0 d1 d2 d3 d4
  cases v2 with
  | true =>
    have HPE : Hid (P = numP v1) := Lib.hid (HP9.out.trans (if_pos rfl))
    go_wp2_with fail
    refine (fnumber_any v1 _).mono ?_
    rintro e w6 ⟨rfl, hb6⟩
    have H6 := Lib.hid (H5.out.below hb6)
    clear hb6 d0 d1 d2 d3 d4
    go_wp2_with (refine wpList_store_row rfl 31 _ _ rfl (w.heap.size + 1) #[.int .i64 1, .int .i64 0, .int .i64 v1, .string ⟨#[]⟩, .slice none 0 0] rfl rfl _ _ H6.out.rs expr_size rfl (expr_one _ _ _ _ _ _ _) ?_)
    (try simp only [Exit.inBlock, Exit.then]); refine bodyPost_ret (results_cell_row rfl _ _ _ _ _ _ _ rfl (setRow_heap _ _ _ _ _ _ H6.out.rs) Try.underlying31 rfl (by kernel_rfl)) rfl ?_
    exact num_out HV.out HPE.out (below_setRow H6.out.blw (Nat.le_succ _) _)
  | false =>
    have HPE : Hid (P = .mk k o m s (ys.map plE)) := Lib.hid (HP9.out.trans (if_neg (by simp)))
    go_wp2_with (refine wpList_store_row rfl 31 _ _ rfl (w.heap.size + 1) #[.int .i64 k, .int .i64 o, .int .i64 m, .string (bs s), .slice A' n c'] rfl rfl _ _ H5.out.rs expr_size rfl (expr_one _ _ _ _ _ _ _) ?_)
    (try simp only [Exit.inBlock, Exit.then]); refine bodyPost_ret (results_cell_row rfl _ _ _ _ _ _ _ rfl (setRow_heap _ _ _ _ _ _ H5.out.rs) Try.underlying31 rfl (by kernel_rfl)) rfl ?_
    exact exprx_out H5.out HRB.out HYA.out HNM.out HNA.out HPE.out _

theorem fexpr18_any : ∀ x : EL, FoldAt 9 x := by
  refine EL.ind fun e ih => fexpr_of e ih

end

section
open Go.RowKit
set_option linter.unusedVariables false
set_option linter.unusedSimpArgs false

/-- what takes the place of a statement whose parts are folded, where there is room for r -/
def decV (p : PS) (r : Int) : List PS :=
  if p.args.length = 1 ∧ (p.args[0]?.getD nilP).kind = 1 then
    (if p.kind = 9 then (if (((if wrapV (p.args[0]?.getD nilP).num ≠ 0 then p.body else p.els).length : Nat) : Int) ≤ r then (if wrapV (p.args[0]?.getD nilP).num ≠ 0 then p.body else p.els) else [p])
     else if p.kind = 10 then (if wrapV (p.args[0]?.getD nilP).num ≠ 0 then [p] else [])
     else [p])
  else [p]

theorem decV_step (out : List PS) (rest : Nat) (p : PS) : stepB out rest p = out ++ decV p (256 - (out.length : Int) - (rest : Int)) := by
  unfold stepB decV
  by_cases h : p.args.length = 1 ∧ (p.args[0]?.getD nilP).kind = 1
  · rw [if_pos h]
    generalize (p.args[0]?.getD nilP) = x at *
    by_cases h9 : p.kind = 9
    · rw [if_neg (fun g => absurd (h9.symm.trans g.2.2.1) (by decide)), if_pos ⟨h.1, h.2, h9⟩, if_pos h9]
      generalize (if wrapV x.num ≠ 0 then p.body else p.els) = t
      by_cases hb : 256 < out.length + t.length + rest
      · rw [if_pos hb, if_neg (by omega)]
      · rw [if_neg hb, if_pos (by omega)]
    · rw [if_neg h9]
      by_cases h10 : p.kind = 10
      · rw [if_pos h10]
        by_cases h0 : wrapV x.num = 0
        · rw [if_pos ⟨h.1, h.2, h10, h0⟩, if_neg (fun g => g h0), List.append_nil]
        · rw [if_neg (fun g => h0 g.2.2.2), if_neg (fun g => h9 g.2.2), if_pos h0]
      · rw [if_neg (fun g => h10 g.2.2.1), if_neg (fun g => h9 g.2.2), if_neg h10]
  · rw [if_neg h, if_neg (fun g => h ⟨g.1, g.2.1⟩), if_neg (fun g => h ⟨g.1, g.2.1⟩)]

theorem FreshRow.down {b b' : Nat} {A : Option Addr} {m c : Nat} (h : FreshRow b A m c) (hb : b' ≤ b) : FreshRow b' A m c := ⟨h.1, fun ad e => ⟨Nat.le_trans hb (h.2 ad e).1, (h.2 ad e).2⟩⟩

set_option maxHeartbeats 1000000 in
theorem fbranch_any (y : SL) (t : Bool) (w : World) : Calls Try.prog 60 #[sVal y, .bool t] w fun e w' => e = .returned (if t = true then .slice y.A1 y.n1 y.c1 else .slice y.A2 y.n2 y.c2) ∧ Below w.heap.size w w' := by
  obtain ⟨k, m, s, A, n, c, es, A1, n1, c1, b, A2, n2, c2, el⟩ := y
  show Calls Try.prog _ #[.agg #[.int .i64 k, .int .i64 m, .string (bs s), .slice A n c, .slice A1 n1 c1, .slice A2 n2 c2], .bool t] w fun e w' => e = .returned (if t = true then .slice A1 n1 c1 else .slice A2 n2 c2) ∧ Below w.heap.size w w'
  cases t with
  | true =>
    go_enter Try.func60, Try.ntmps60
    go_wp2_with fail
    go_ret
    exact ⟨rfl, (Below.refl _ w).alloc (Nat.le_refl _) _⟩
  | false =>
    go_enter Try.func60, Try.ntmps60
    go_wp2_with fail
    go_ret
    exact ⟨rfl, (Below.refl _ w).alloc (Nat.le_refl _) _⟩

/-- what decided leaves -/
def DecOut (S : Nat → Prop) (w : World) (p : List PS) (e : Ending) (w' : World) : Prop := ∃ (A : Option Addr) (m c : Nat) (zs : List SL), e = .returned (.slice A m c) ∧ RowS6 w' w'.heap.size A m zs ∧ FreshRow 0 A m c ∧ (∀ z ∈ zs, z.In w' w'.heap.size) ∧ (∀ z ∈ zs, z.At S) ∧ zs.map plS = p ∧ m * 104 ≤ 140737488355328 ∧ Below w.heap.size w w'

/-- a statement as decided holds it: its box, and the row of one -/
structure DSt (w V : World) (S : Nat → Prop) (y : SL) : Prop where
  bx : Blk V w.heap.size 48 (sCells y)
  rw1 : RowS6 V V.heap.size (some ⟨w.heap.size + 1, 0, none⟩) 1 [y]
  si : y.In V V.heap.size
  sa : y.At S
  blw : Below w.heap.size w V
theorem DSt.below {w V V' : World} {S : Nat → Prop} {y : SL} (h : DSt w V S y) (hb : Below V.heap.size V V') : DSt w V' S y :=
  ⟨h.bx.below hb h.bx.lt, (h.rw1.below hb).more hb.size, (h.si.below hb).more hb.size, h.sa, h.blw.trans (hb.mono h.blw.size)⟩
theorem DSt.kept {w V : World} {S : Nat → Prop} {y : SL} (h : DSt w V S y) {p : List PS} (hp : p = [plS y]) : DecOut S w p (.returned (.slice (some ⟨w.heap.size + 1, 0, none⟩) 1 1)) V :=
  ⟨_, 1, 1, [y], rfl, h.rw1, ⟨fun e => (by cases e), fun ad e => (by injection e with e; subst e; exact ⟨Nat.zero_le _, rfl⟩)⟩, fun z hz => (by have e : z = y := (by simpa using hz); rw [e]; exact h.si), fun z hz => (by have e : z = y := (by simpa using hz); rw [e]; exact h.sa), hp.symm, by omega, h.blw⟩
theorem DSt.gone {w V : World} {S : Nat → Prop} {y : SL} (h : DSt w V S y) {p : List PS} (hp : p = []) : DecOut S w p (.returned (.slice none 0 0)) V :=
  ⟨none, 0, 0, [], rfl, ⟨rfl, by show ((0 : Nat) : Int) ≤ _; omega, fun h => absurd h (by omega)⟩, ⟨fun _ => ⟨rfl, rfl⟩, fun ad e => (by cases e)⟩, fun z hz => (by cases hz), fun z hz => (by cases hz), hp.symm, by omega, h.blw⟩
theorem DSt.cho {w V : World} {S : Nat → Prop} {y : SL} (h : DSt w V S y) {p : List PS} {t : Bool} (hF1 : FreshRow 0 y.A1 y.n1 y.c1) (hF2 : FreshRow 0 y.A2 y.n2 y.c2) (hm1 : y.n1 * 104 ≤ 140737488355328) (hm2 : y.n2 * 104 ≤ 140737488355328) (hp : p = if t = true then y.body.map plS else y.els.map plS) :
    DecOut S w p (.returned (if t = true then .slice y.A1 y.n1 y.c1 else .slice y.A2 y.n2 y.c2)) V := by
  obtain ⟨⟨_, _, _, r1, r2⟩, i1, i2⟩ := h.si.parts
  obtain ⟨_, a1, a2⟩ := SL.At_eq.1 h.sa
  cases t with
  | true => exact ⟨_, _, _, y.body, rfl, r1, hF1, fun z hz => SL.Ins.mem i1 z hz, a1, hp.symm, hm1, h.blw⟩
  | false => exact ⟨_, _, _, y.els, rfl, r2, hF2, fun z hz => SL.Ins.mem i2 z hz, a2, hp.symm, hm2, h.blw⟩

set_option maxRecDepth 100000 in
set_option maxHeartbeats 12800000 in
theorem fdecided_any (S : Nat → Prop) (y : SL) (r : Int) (w : World) (hin : y.In w w.heap.size) (hat : y.At S) (hF1 : FreshRow 0 y.A1 y.n1 y.c1) (hF2 : FreshRow 0 y.A2 y.n2 y.c2) (hm1 : y.n1 * 104 ≤ 140737488355328) (hm2 : y.n2 * 104 ≤ 140737488355328) :
    Calls Try.prog 39 #[sVal y, .int .i64 r] w (DecOut S w (decV (plS y) r)) := by
  obtain ⟨P, hP⟩ : ∃ P, P = decV (plS y) r := ⟨_, rfl⟩
  rw [← hP]
  obtain ⟨W1, hW1⟩ : ∃ W, W = w.alloc (.cells (sCells y) 48) := ⟨_, rfl⟩
  obtain ⟨W, hW⟩ : ∃ W, W = W1.alloc (.cells (sCells y) 48) := ⟨_, rfl⟩
  have hs1 : W1.heap.size = w.heap.size + 1 := by rw [hW1]; simp
  have HD : Hid (DSt w W S y) := Lib.hid (by
    have hB1 : Below w.heap.size w W1 := by rw [hW1]; exact (Below.refl _ _).alloc (Nat.le_refl _) _
    have hB : Below w.heap.size w W := by rw [hW]; exact hB1.alloc (by omega) _
    refine ⟨?_, ?_, (hin.below hB).more hB.size, hat, hB⟩
    · rw [hW]
      refine Blk.alloc ?_ _
      rw [hW1]
      exact Blk.new _ _ _
    · have := rowFS_lit y W hW
      rw [hs1] at this
      exact this)
  have hPq := plS_eq y
  obtain ⟨⟨_, _, ⟨hrow, _⟩, _, _⟩, _, _⟩ := HD.out.si.parts
  have HF1 := Lib.hid hF1
  have HF2 := Lib.hid hF2
  have HM1 := Lib.hid hm1
  have HM2 := Lib.hid hm2
  obtain ⟨k, m, s, A, n, c, es, A1, n1, c1, b, A2, n2, c2, el⟩ := y
  simp only [SL.kind, SL.num, SL.name, SL.A, SL.n, SL.c, SL.args, SL.A1, SL.n1, SL.c1, SL.A2, SL.n2, SL.c2, SL.body, SL.els] at hrow hPq hm1 hm2
  rw [hPq] at hP
  have HPQ := Lib.hid hPq
  have hl : es.length = n := hrow.1
  have HR := Lib.hid hrow
  show Calls Try.prog _ #[.agg #[.int .i64 k, .int .i64 m, .string (bs s), .slice A n c, .slice A1 n1 c1, .slice A2 n2 c2], .int .i64 r] w _
  have d0 := HD.out.bx.cell 0
  have d1 := HD.out.bx.cell 1
  have d2 := HD.out.bx.cell 2
  have d3 := HD.out.bx.cell 3
  have d4 := HD.out.bx.cell 4
  have d5 := HD.out.bx.cell 5
  simp [sCells, SL.kind, SL.num, SL.name, SL.A, SL.n, SL.c, SL.A1, SL.n1, SL.c1, SL.A2, SL.n2, SL.c2] at d0 d1 d2 d3 d4 d5
  have HWQ : Hid (W = (w.alloc (.cells #[.int .i64 k, .int .i64 m, .string (bs s), .slice A n c, .slice A1 n1 c1, .slice A2 n2 c2] 48)).alloc (.cells #[.int .i64 k, .int .i64 m, .string (bs s), .slice A n c, .slice A1 n1 c1, .slice A2 n2 c2] 48)) := Lib.hid (by rw [hW, hW1]; rfl)
  have HP0 := Lib.hid hP
  clear hin hat hF1 hF2 hm1 hm2 hP hPq hW hW1 hs1
  by_cases hn1 : n = 1
  · subst hn1
    obtain ⟨z, hz⟩ : ∃ z, z = es[0]?.getD nilE := ⟨_, rfl⟩
    have hez : es = [z] := by
      match es, hl with
      | [u], _ => rw [hz]; rfl
    obtain ⟨zd, rfl, _, hc0⟩ := row_at hrow (j := 0) Nat.one_pos
    obtain ⟨x0, x1, x2, x3, x4⟩ := hc0 _ hz
    have HZX : Hid (∀ u, Below W.heap.size W u → u.cell? zd = some (.int .i64 z.kind) ∧ u.cell? ⟨zd.block, zd.off + 1, none⟩ = some (.int .i64 z.op) ∧ u.cell? ⟨zd.block, zd.off + 2, none⟩ = some (.int .i64 z.num) ∧ u.cell? ⟨zd.block, zd.off + 3, none⟩ = some (.string (bs z.name)) ∧ u.cell? ⟨zd.block, zd.off + 4, none⟩ = some (.slice z.A z.n z.c)) := Lib.hid (fun u hu => by
      obtain ⟨ad0, hd0, _, hc0⟩ := row_at (HR.out.below hu) (j := 0) Nat.one_pos
      obtain rfl : zd = ad0 := by injection hd0
      have := hc0 _ hz
      simp only [Nat.zero_mul, add_zeroF] at this
      exact this)
    obtain ⟨zk, zo, zm, zs, zA, zn, zc, zl⟩ := z
    simp only [Nat.zero_mul, add_zeroF, EL.kind, EL.op, EL.num, EL.name, EL.A, EL.n, EL.c] at x0 x1 x2 x3 x4 HZX
    have HP1 : Hid (P = if zk = 1 then (if k = 9 then (if (((if wrapV zm ≠ 0 then b.map plS else el.map plS).length : Nat) : Int) ≤ r then (if wrapV zm ≠ 0 then b.map plS else el.map plS) else [plS (SL.mk k m s (some zd) 1 c es A1 n1 c1 b A2 n2 c2 el)]) else if k = 10 then (if wrapV zm ≠ 0 then [plS (SL.mk k m s (some zd) 1 c es A1 n1 c1 b A2 n2 c2 el)] else []) else [plS (SL.mk k m s (some zd) 1 c es A1 n1 c1 b A2 n2 c2 el)]) else [plS (SL.mk k m s (some zd) 1 c es A1 n1 c1 b A2 n2 c2 el)]) := Lib.hid (by
      rw [HP0.out, HPQ.out, hez, List.map_cons, List.map_nil, show plE (EL.mk zk zo zm zs zA zn zc zl) = .mk zk zo zm zs (zl.map plE) from plE_eq _]
      unfold decV
      by_cases hz1 : zk = 1
      · rw [if_pos hz1]
        exact if_pos ⟨rfl, hz1⟩
      · rw [if_neg hz1]
        exact if_neg (fun h => hz1 h.2))
    rw [HWQ.out] at d0 d1 d2 d3 d4 d5 x0 x1 x2 x3 x4
    clear hz hez hc0 hrow hl HP0
    go_enter Try.func39, Try.ntmps39
    go_wp2_with fail
    refine (fisnum_any (EL.mk zk zo zm zs zA zn zc zl) _).mono ?_
    rintro e w5 ⟨he, hb5⟩
    rw [← HWQ.out] at hb5
    have H5 := Lib.hid (HD.out.below hb5)
    clear d0 d1 d2 d3 d4 d5 x0 x1 x2 x3 x4
    have d0 := H5.out.bx.cell 0
    have d1 := H5.out.bx.cell 1
    have d2 := H5.out.bx.cell 2
    have d3 := H5.out.bx.cell 3
    have d4 := H5.out.bx.cell 4
    have d5 := H5.out.bx.cell 5
    simp [sCells, SL.kind, SL.num, SL.name, SL.A, SL.n, SL.c, SL.A1, SL.n1, SL.c1, SL.A2, SL.n2, SL.c2] at d0 d1 d2 d3 d4 d5
    obtain ⟨x0, x1, x2, x3, x4⟩ := HZX.out w5 hb5
    by_cases hz1 : zk = 1
    · rw [show decide ((EL.mk zk zo zm zs zA zn zc zl).kind = 1) = true from decide_eq_true hz1] at he
      subst he
      have HP2 := Lib.hid (HP1.out.trans (if_pos hz1))
      clear hz1
      go_wp2_with fail
      refine (ftrue_any zm _).mono ?_
      rintro e w6 ⟨rfl, e6⟩
      have e7 := e6.symm
      subst e7
      clear e6
      obtain ⟨T, hT⟩ : ∃ T, T = decide (wrapV zm ≠ 0) := ⟨_, rfl⟩
      have HT : Hid (∀ (a b : List PS), (if wrapV zm ≠ 0 then a else b) = if T = true then a else b) := Lib.hid (fun a b => by
        rw [hT]
        by_cases h : wrapV zm ≠ 0
        · rw [if_pos h, if_pos (decide_eq_true h)]
        · rw [if_neg h, if_neg (by rw [decide_eq_false h]; decide)])
      rw [← hT]
      clear hT
      by_cases h9 : k = 9
      · subst h9
        have HP3 := Lib.hid (HP2.out.trans (if_pos rfl))
        go_wp2_with fail
        refine (fbranch_any (.mk 9 m s (some zd) 1 c es A1 n1 c1 b A2 n2 c2 el) T _).mono ?_
        rintro e w7 ⟨rfl, hb7⟩
        have H7 := Lib.hid (H5.out.below hb7)
        have hlen : ((if wrapV zm ≠ 0 then b.map plS else el.map plS).length : Int) = ((if T = true then n1 else n2 : Nat) : Int) := by
          obtain ⟨⟨_, _, _, r1, r2⟩, _, _⟩ := H7.out.si.parts
          have l1 : b.length = n1 := r1.1
          have l2 : el.length = n2 := r2.1
          rw [HT.out]
          cases T with
          | true => show ((b.map plS).length : Int) = (n1 : Int); rw [List.length_map, l1]
          | false => show ((el.map plS).length : Int) = (n2 : Int); rw [List.length_map, l2]
        have HP4 : Hid (P = if ((if T = true then n1 else n2 : Nat) : Int) ≤ r then (if T = true then b.map plS else el.map plS) else [plS (SL.mk 9 m s (some zd) 1 c es A1 n1 c1 b A2 n2 c2 el)]) := Lib.hid (by rw [HP3.out, hlen, HT.out])
        clear hlen hb7 d0 d1 d2 d3 d4 d5 x0 x1 x2 x3 x4
        have HCH := Lib.hid (fun (hh : P = if T = true then b.map plS else el.map plS) => H7.out.cho (t := T) HF1.out HF2.out HM1.out HM2.out hh)
        simp only [SL.A1, SL.n1, SL.c1, SL.A2, SL.n2, SL.c2] at HCH ⊢
        cases T with
        | true =>
          by_cases hr : (n1 : Int) ≤ r
          · have HPE := Lib.hid (HP4.out.trans (if_pos hr))
            go_wp2_with fail
            go_ret
            exact HCH.out HPE.out
          · have HPE := Lib.hid (HP4.out.trans (if_neg hr))
            go_wp2_with fail
            go_ret
            exact H7.out.kept HPE.out
        | false =>
          by_cases hr : (n2 : Int) ≤ r
          · have HPE := Lib.hid (HP4.out.trans (if_pos hr))
            go_wp2_with fail
            go_ret
            exact HCH.out HPE.out
          · have HPE := Lib.hid (HP4.out.trans (if_neg hr))
            go_wp2_with fail
            go_ret
            exact H7.out.kept HPE.out
      · have HP3 := Lib.hid (HP2.out.trans (if_neg h9))
        have q9 : (k == 9) = false := by rw [beq_dec18]; exact decide_eq_false h9
        by_cases h10 : k = 10
        · subst h10
          have HP4 := Lib.hid ((HP3.out.trans (if_pos rfl)).trans (HT.out _ _))
          cases T with
          | true =>
            have HPE := Lib.hid (HP4.out.trans (if_pos rfl))
            go_wp2_with fail
            go_ret
            exact H5.out.kept HPE.out
          | false =>
            have HPE := Lib.hid (HP4.out.trans (if_neg (by decide)))
            go_wp2_with fail
            go_ret
            exact H5.out.gone HPE.out
        · have q10 : (k == 10) = false := by rw [beq_dec18]; exact decide_eq_false h10
          have HPE := Lib.hid (HP3.out.trans (if_neg h10))
          go_wp2_with fail
          go_ret
          exact H5.out.kept HPE.out
    · rw [show decide ((EL.mk zk zo zm zs zA zn zc zl).kind = 1) = false from decide_eq_false hz1] at he
      subst he
      have HPE := Lib.hid (HP1.out.trans (if_neg hz1))
      go_wp2_with fail
      go_ret
      exact H5.out.kept HPE.out
  · have q1 : ((n : Int) != 1) = true := by rw [bne, beq_dec18, decide_eq_false (by omega)]; rfl
    have HPE : Hid (P = [plS (SL.mk k m s A n c es A1 n1 c1 b A2 n2 c2 el)]) := Lib.hid (by
      rw [HP0.out, HPQ.out]
      unfold decV
      exact if_neg (fun h => hn1 (by have := h.1; simp only [PS.args, List.length_map] at this; omega)))
    rw [HWQ.out] at d0 d1 d2 d3 d4 d5
    go_enter Try.func39, Try.ntmps39
    go_wp2_with fail
    go_ret
    rw [← HWQ.out]
    exact HD.out.kept HPE.out

set_option maxRecDepth 100000 in
set_option maxHeartbeats 4000000 in
theorem fcollect_any (w : World) (g base : Nat) (A0 : Option Addr) (m0 c0 : Nat) (ys : List SL) (A : Option Addr) (m c B : Nat) (zs : List SL) (hg : g < base) (hk : Blk w g 32 #[.slice A0 m0 c0]) (hown : w.ownsRow base 48 6 (.slice A0 m0 c0) m0 (scw ys)) (hA : FreshRow 0 A m c) (hrow : RowS6 w B A m zs) (hbytes : (m0 + m) * 104 ≤ 140737488355328) (hbase : base ≤ w.heap.size) :
    Calls Try.prog 38 #[.slice A m c, .pointer (some ⟨g, 0, none⟩)] w fun e w' => e = .returned (.tuple #[]) ∧ ∃ (A' : Option Addr) (c' : Nat) (w9 : World), w9.ownsRow base 48 6 (.slice A' (m0 + m) c') (m0 + m) (scw (ys ++ zs)) ∧ w.grownBy w9 (Value.slice A0 m0 c0).ownBlock ∧ ((Value.slice A' (m0 + m) c').ownBlock = (Value.slice A0 m0 c0).ownBlock ∨ (Value.slice A' (m0 + m) c').ownBlock = some w.heap.size) ∧ w' = w9.setCell ⟨g, 0, none⟩ (.slice A' (m0 + m) c') := by
  obtain ⟨i0, hi, hz0, hsz, hby⟩ := inf_parts inf_st
  have HI := Lib.hid hi
  have HZ0 := Lib.hid hz0
  have HSZ := Lib.hid hsz
  have HBY := Lib.hid hby
  have HK := Lib.hid hk
  have HO := Lib.hid hown
  have HA := Lib.hid hA
  have HRW := Lib.hid hrow
  have HNE : Hid (some g ≠ (Value.slice A0 m0 c0).ownBlock) := Lib.hid (fun e => by have := (hown.lt g e.symm).1; omega)
  have d0 := hk.cell 0
  simp at d0
  clear hi hz0 hsz hby hk hown hA hrow
  go_enter Try.func38, Try.ntmps38
  go_wp2_with (first | (at_builtin; refine wpList_appS _ rfl _ _ 32 rfl base 48 i0 _ Try.underlying32 HI.out HZ0.out rfl HSZ.out HBY.out (.slice A0 m0 c0) m0 ys rfl HO.out A m c B zs rfl HA.out.1 (fun ad e => (HA.out.2 ad e).2) HRW.out hbytes hbase ?_; intro A' c' w9 hown9 hg9 hob9; have e0 : w9.cell? ⟨g, 0, none⟩ = some (.slice A0 m0 c0) := (HK.out.grown hg9 HNE.out).cell 0; have f0 : w9.frozen? ⟨g, 0, none⟩ = false := (HK.out.grown hg9 HNE.out).frozen 0) | go_in)
  go_end0
  exact ⟨rfl, A', c', w9, hown9, hg9, hob9, rfl⟩

end

section
open Go.RowKit
set_option linter.unusedVariables false
set_option linter.unusedSimpArgs false

theorem BSt.bodyP {S : Nat → Prop} {b0 : Nat} {wr V w3 : World} {k m : Int} {nm : List UInt8} {A : Option Addr} {n c : Nat} {es : List EL} {A1 : Option Addr} {n1 c1 : Nat} {b : List SL} {A2 : Option Addr} {n2 c2 : Nat} {e : List SL} (h : BSt S b0 wr V (.mk k m nm A n c es A1 n1 c1 b A2 n2 c2 e)) (hS : ∀ b, S b → b < b0) (hb : Below V.heap.size V w3)
    {A' : Option Addr} {n' c' : Nat} {ys : List SL} (hr : RowS6 w3 w3.heap.size A' n' ys) (hA : FreshRow (b0 + 1) A' n' c') (hI : ∀ y ∈ ys, y.In w3 w3.heap.size) (hT : ∀ y ∈ ys, y.At (fun b => S b ∨ b0 + 1 ≤ b)) :
    BSt S b0 wr (w3.setCell ⟨b0, 4, none⟩ (.slice A' n' c')) (.mk k m nm A n c es A' n' c' ys A2 n2 c2 e) := by
  obtain ⟨⟨h1, h2, ⟨h3, h4⟩, h5, h6⟩, h7, h8⟩ := ((h.si.below hb).more hb.size).parts
  obtain ⟨⟨a1, a2, a3, a4⟩, a5, a6⟩ := SL.At_eq.1 h.sa
  exact h.put hS hb 4 _ ((h.bx.below hb h.bx.lt).set_ 4 _) (SL.In.mk ⟨⟨h1, h2, ⟨h3, h4⟩, hr, h6⟩, SL.Ins.of hI, h8⟩) (SL.At_eq.2 ⟨⟨a1, a2, fun h0 ad had => .inr (hA.2 ad had).1, a4⟩, hT, a6⟩)
theorem BSt.elsP {S : Nat → Prop} {b0 : Nat} {wr V w3 : World} {k m : Int} {nm : List UInt8} {A : Option Addr} {n c : Nat} {es : List EL} {A1 : Option Addr} {n1 c1 : Nat} {b : List SL} {A2 : Option Addr} {n2 c2 : Nat} {e : List SL} (h : BSt S b0 wr V (.mk k m nm A n c es A1 n1 c1 b A2 n2 c2 e)) (hS : ∀ b, S b → b < b0) (hb : Below V.heap.size V w3)
    {A' : Option Addr} {n' c' : Nat} {ys : List SL} (hr : RowS6 w3 w3.heap.size A' n' ys) (hA : FreshRow (b0 + 1) A' n' c') (hI : ∀ y ∈ ys, y.In w3 w3.heap.size) (hT : ∀ y ∈ ys, y.At (fun b => S b ∨ b0 + 1 ≤ b)) :
    BSt S b0 wr (w3.setCell ⟨b0, 5, none⟩ (.slice A' n' c')) (.mk k m nm A n c es A1 n1 c1 b A' n' c' ys) := by
  obtain ⟨⟨h1, h2, ⟨h3, h4⟩, h5, h6⟩, h7, h8⟩ := ((h.si.below hb).more hb.size).parts
  obtain ⟨⟨a1, a2, a3, a4⟩, a5, a6⟩ := SL.At_eq.1 h.sa
  exact h.put hS hb 5 _ ((h.bx.below hb h.bx.lt).set_ 5 _) (SL.In.mk ⟨⟨h1, h2, ⟨h3, h4⟩, h5, hr⟩, h7, SL.Ins.of hI⟩) (SL.At_eq.2 ⟨⟨a1, a2, a3, fun h0 ad had => .inr (hA.2 ad had).1⟩, a5, hT⟩)

/-- what stmt leaves -/
def StOut (S : Nat → Prop) (w : World) (p : PS) (e : Ending) (w' : World) : Prop := ∃ y : SL, e = .returned (sVal y) ∧ y.In w' w'.heap.size ∧ y.At (fun b => S b ∨ w.heap.size ≤ b) ∧ FreshRow w.heap.size y.A1 y.n1 y.c1 ∧ FreshRow w.heap.size y.A2 y.n2 y.c2 ∧ y.n1 * 104 ≤ 140737488355328 ∧ y.n2 * 104 ≤ 140737488355328 ∧ plS y = p ∧ Below w.heap.size w w'

theorem stmt_out {S : Nat → Prop} {w W2 V : World} {y : SL} {p : PS} (h : BSt S (w.heap.size + 2) W2 V y) (hB : Below w.heap.size w W2) (hs : W2.heap.size = w.heap.size + 2) (hS : ∀ b, S b → b < w.heap.size) (h1 : FreshRow (w.heap.size + 3) y.A1 y.n1 y.c1) (h2 : FreshRow (w.heap.size + 3) y.A2 y.n2 y.c2) (m1 : y.n1 * 104 ≤ 140737488355328) (m2 : y.n2 * 104 ≤ 140737488355328) (hp : plS y = p) (cs : Array Value) :
    StOut S w p (.returned (sVal y)) (V.setRow (w.heap.size + 1) cs) := by
  have hk : ∀ q : Addr, (S q.block ∨ w.heap.size + 3 ≤ q.block) → q.block < V.heap.size → (V.setRow (w.heap.size + 1) cs).cell? q = V.cell? q := fun q hq _ => cell_setRow_other _ _ _ _ (by
    rcases hq with hq | hq
    · have := hS _ hq
      omega
    · omega)
  have hsz : V.heap.size ≤ (V.setRow (w.heap.size + 1) cs).heap.size := by rw [size_setRow]; exact Nat.le_refl _
  exact ⟨y, rfl, h.si.keepS (S := fun b => S b ∨ w.heap.size + 3 ≤ b) hsz hk h.sa, h.sa.mono fun b hb => hb.imp id (fun h => by omega), h1.down (by omega), h2.down (by omega), m1, m2, hp, below_setRow (hB.trans (h.blw.mono (by omega))) (Nat.le_succ _) _⟩

set_option maxRecDepth 100000 in
set_option maxHeartbeats 25600000 in
theorem fstmt_of (x : SL) (hE : FoldBAt 12 x.body ∧ FoldBAt 12 x.els) (S : Nat → Prop) (w : World) (hin : x.In w w.heap.size) (hat : x.At S) (hS : ∀ b, S b → b < w.heap.size) (hlit : litS (plS x)) : Calls Try.prog 40 #[sVal x] w (StOut S w (foldS (plS x))) := by
  obtain ⟨W1, hW1⟩ : ∃ W, W = w.alloc (.cells (sCells x) 48) := ⟨_, rfl⟩
  obtain ⟨W2, hW2⟩ : ∃ W, W = W1.alloc (.cells #[.int .i64 0, .int .i64 0, .string ⟨#[]⟩, .slice none 0 0, .slice none 0 0, .slice none 0 0] 48) := ⟨_, rfl⟩
  have hs1 : W1.heap.size = w.heap.size + 1 := by rw [hW1]; simp
  have hs2 : W2.heap.size = w.heap.size + 2 := by rw [hW2]; simp [hs1]
  have HB2 : Hid (Below w.heap.size w W2) := Lib.hid (by rw [hW2, hW1]; exact ((Below.refl _ _).alloc (Nat.le_refl _) _).alloc (by simp) _)
  have HBX : Hid (Blk W2 w.heap.size 48 (sCells x)) := Lib.hid (by
    rw [hW2]
    refine Blk.alloc ?_ _
    rw [hW1]
    exact Blk.new _ _ _)
  have HRS : Hid (Blk W2 (w.heap.size + 1) 48 #[.int .i64 0, .int .i64 0, .string ⟨#[]⟩, .slice none 0 0, .slice none 0 0, .slice none 0 0]) := Lib.hid (by rw [hW2]; exact Blk.new_at _ _ _ _ hs1.symm)
  have HS2 := Lib.hid hs2
  have HSB := Lib.hid hS
  have HSB2 : Hid (∀ b, S b → b < w.heap.size + 2) := Lib.hid (fun b hb => by have := hS b hb; omega)
  have HIN := Lib.hid ((hin.below HB2.out).more HB2.out.size)
  have HAT := Lib.hid hat
  have HLX := Lib.hid hlit
  have HEX := Lib.hid hE
  have HPQ := Lib.hid (plS_eq x)
  clear hin hat hS hlit hE hs1 hs2
  obtain ⟨k, m, s, A, n, c, es, A1, n1, c1, b, A2, n2, c2, el⟩ := x
  show Calls Try.prog _ #[.agg #[.int .i64 k, .int .i64 m, .string (bs s), .slice A n c, .slice A1 n1 c1, .slice A2 n2 c2]] w _
  have HLQ : Hid (litS (.mk k m s (es.map plE) (b.map plS) (el.map plS))) := Lib.hid (by rw [← show plS (SL.mk k m s A n c es A1 n1 c1 b A2 n2 c2 el) = PS.mk k m s (es.map plE) (b.map plS) (el.map plS) from HPQ.out]; exact HLX.out)
  have HPL : Hid (plS (SL.mk k m s A n c es A1 n1 c1 b A2 n2 c2 el) = .mk k m s (es.map plE) (b.map plS) (el.map plS)) := Lib.hid HPQ.out
  have HQA : Hid ((∀ y ∈ b, y.At S) ∧ (∀ y ∈ el, y.At S)) := Lib.hid (by
    obtain ⟨_, q5, q6⟩ := SL.At_eq.1 HAT.out
    exact ⟨q5, q6⟩)
  have HL1 : Hid (n1 * 104 ≤ 140737488355328 ∧ ∀ y ∈ b, litS (plS y)) := Lib.hid (by
    obtain ⟨⟨_, _, l3, _⟩, l5, _⟩ := (litS_eq _).1 HLQ.out
    obtain ⟨⟨_, _, _, p3, _⟩, _, _⟩ := HIN.out.parts
    refine ⟨?_, fun y hy => l5 _ (List.mem_map.2 ⟨y, hy, rfl⟩)⟩
    have := l3
    simp only [PS.body, List.length_map] at this
    rw [← show b.length = n1 from p3.1]
    exact this)
  have HL2 : Hid (True ∧ n2 * 104 ≤ 140737488355328 ∧ ∀ y ∈ el, litS (plS y)) := Lib.hid (by
    obtain ⟨⟨_, _, _, l4⟩, _, l6⟩ := (litS_eq _).1 HLQ.out
    obtain ⟨⟨_, _, _, _, p4⟩, _, _⟩ := HIN.out.parts
    refine ⟨trivial, ?_, fun y hy => l6 _ (List.mem_map.2 ⟨y, hy, rfl⟩)⟩
    have := l4
    simp only [PS.els, List.length_map] at this
    rw [← show el.length = n2 from p4.1]
    exact this)
  have b0 := HBX.out.cell 0
  have b1 := HBX.out.cell 1
  have b2 := HBX.out.cell 2
  have b3 := HBX.out.cell 3
  have b4 := HBX.out.cell 4
  have b5 := HBX.out.cell 5
  simp [sCells, SL.kind, SL.num, SL.name, SL.A, SL.n, SL.c, SL.A1, SL.n1, SL.c1, SL.A2, SL.n2, SL.c2] at b0 b1 b2 b3 b4 b5
  have hW1' : W1 = w.alloc (.cells #[.int .i64 k, .int .i64 m, .string (bs s), .slice A n c, .slice A1 n1 c1, .slice A2 n2 c2] 48) := hW1
  rw [hW2, hW1'] at b0 b1 b2 b3 b4 b5
  go_enter Try.func40, Try.ntmps40
  go_wp2_with (rw [← hW1', ← hW2]; refine wpList_store_row rfl 48 _ _ rfl (w.heap.size + 2) #[.int .i64 k, .int .i64 m, .string (bs s), .slice A n c, .slice A1 n1 c1, .slice A2 n2 c2] rfl rfl _ _ (Blk.new_at W2 _ _ _ HS2.out.symm) stmt_sizeF rfl (stmt_oneF _ _ _ _ _ _ _ _ _ _ _ _) ?_; obtain ⟨V, hV⟩ : ∃ V, V = (W2.alloc (.cells #[.int .i64 0, .int .i64 0, .string ⟨#[]⟩, .slice none 0 0, .slice none 0 0, .slice none 0 0] 48)).setRow (w.heap.size + 2) #[.int .i64 k, .int .i64 m, .string (bs s), .slice A n c, .slice A1 n1 c1, .slice A2 n2 c2] := ⟨_, rfl⟩; rw [← hV]; obtain ⟨hkV0, hbV0⟩ := put_row (W := W2) (V := V) (by rw [HS2.out]; exact hV); have HKV := Lib.hid hkV0; have HBV := Lib.hid hbV0; clear hV hkV0 hbV0; have e3 : V.cell? ⟨w.heap.size, 3, none⟩ = some (.slice A n c) := (HBX.out.below HBV.out HBX.out.lt).cell 3)
  clear hW1 hW2 hW1' b0 b1 b2 b3 b4 b5 e3
  have HVB : Hid (BSt S (w.heap.size + 2) W2 V (SL.mk k m s A n c es A1 n1 c1 b A2 n2 c2 el)) := Lib.hid ⟨HS2.out, by have := HKV.out; rw [HS2.out] at this; exact this, (HIN.out.below HBV.out).more HBV.out.size, HAT.out.mono fun b hb => .inl hb, by rw [← HS2.out]; exact HBV.out⟩
  have HC : Hid (Calls Try.prog 26 #[.slice A n c, .func (.func 9) #[] #[]] V fun f w' => ∃ (A' : Option Addr) (c' : Nat) (ys : List EL), f = .returned (.slice A' n c') ∧ RowE w' w'.heap.size A' n ys ∧ (0 < n → ∀ ad : Addr, A' = some ad → V.heap.size ≤ ad.block) ∧ (∀ y ∈ ys, y.In w' w'.heap.size) ∧ (∀ y ∈ ys, y.At (fun b => S b ∨ V.heap.size ≤ b)) ∧
      ys.map plE = es.map (fun x => foldP (plE x)) ∧ Below V.heap.size V w') := Lib.hid (by
    obtain ⟨⟨_, _, ⟨p1, p2⟩, _, _⟩, _, _⟩ := HVB.out.si.parts
    obtain ⟨⟨_, q2, _, _⟩, _, _⟩ := SL.At_eq.1 HAT.out
    obtain ⟨⟨l1, l2, _, _⟩, _, _⟩ := (litS_eq _).1 HLQ.out
    exact fmap_of es (fun y _ => fexpr18_any y) S A n c V p1 (fun y hy => EL.Ins.mem p2 y hy) q2 (fun b hb => Nat.lt_of_lt_of_le (HSB.out b hb) (Nat.le_trans HB2.out.size HBV.out.size)) (by have := l1; simp only [PS.args, List.length_map] at this; rw [← show es.length = n from p1.1]; exact this) (fun y hy => l2 _ (List.mem_map.2 ⟨y, hy, rfl⟩)))
  refine HC.out.mono ?_
  rintro e w3 ⟨A4, c4, fs, rfl, hr, hrb, hI, hT, hP, hb⟩
  obtain ⟨V2, hV2⟩ : ∃ V2, V2 = w3.setCell ⟨w.heap.size + 2, 3, none⟩ (.slice A4 n c4) := ⟨_, rfl⟩
  have HV2 : Hid (BSt S (w.heap.size + 2) W2 V2 (SL.mk k m s A4 n c4 fs A1 n1 c1 b A2 n2 c2 el)) := Lib.hid (by rw [hV2]; exact HVB.out.args HSB2.out hb c4 hr hrb hI hT)
  have HFS := Lib.hid hP
  have g3 := (HVB.out.bx.below hb HVB.out.lt).cell 3
  have f3 := (HVB.out.bx.below hb HVB.out.lt).frozen 3
  simp [sCells, SL.A, SL.n, SL.c] at g3 f3
  clear hr hrb hI hT hP hb HC
  go_wp2_with fail
  rw [← hV2]
  clear hV2 g3 f3
  obtain ⟨Vd, hVd⟩ : ∃ Vd, Vd = V2.drew := ⟨_, rfl⟩
  have HVD : Hid (BSt S (w.heap.size + 2) W2 Vd (SL.mk k m s A4 n c4 fs A1 n1 c1 b A2 n2 c2 el)) := Lib.hid (by rw [hVd]; exact HV2.out.below (Below.refl _ _).drew)
  have HSV : Hid (w.heap.size + 3 ≤ Vd.heap.size) := Lib.hid (by have := HVD.out.lt; omega)
  have HB4 : Hid (Below w.heap.size w Vd) := Lib.hid (HB2.out.trans (HVD.out.blw.mono (by omega)))
  have HCB : Hid (Calls Try.prog 12 #[.slice A1 n1 c1] Vd fun e w' => ∃ (A' : Option Addr) (m c' : Nat) (ys : List SL), e = .returned (.slice A' m c') ∧ RowS6 w' w'.heap.size A' m ys ∧ FreshRow Vd.heap.size A' m c' ∧ (∀ y ∈ ys, y.In w' w'.heap.size) ∧ (∀ y ∈ ys, y.At (fun b => S b ∨ Vd.heap.size ≤ b)) ∧ ys.map plS = foldGo [] (b.map plS) ∧ m * 104 ≤ 140737488355328 ∧ Below Vd.heap.size Vd w') := Lib.hid (by
    obtain ⟨⟨_, _, _, p3, p4⟩, p5, p6⟩ := HVD.out.si.parts
    exact HEX.out.1 S Vd A1 n1 c1 p3 (fun y hy => SL.Ins.mem p5 y hy) HQA.out.1 (fun b hb => Nat.lt_of_lt_of_le (HSB.out b hb) HB4.out.size) HL1.out.1 HL1.out.2)
  refine wp_region_held_drew (S := fun u => Below (w.heap.size + 2) W2 u ∧ Blk u w.heap.size 48 (sCells (SL.mk k m s A n c es A1 n1 c1 b A2 n2 c2 el))) (by kernel_rfl) (by rw [← hVd]; exact ⟨HVD.out.blw, HBX.out.below HVD.out.blw (show w.heap.size < w.heap.size + 2 by omega)⟩) (fun hHeld => ?_)
  rw [← hVd] at hHeld ⊢
  clear hVd
  refine held_take (i := 0) (fuel := 9) (v := ?_) (by rw [List.getElem?_toArray]; rfl) (by kernel_rfl) (by kernel_rfl) (by kernel_rfl) hHeld ?_ ?_ ?_ ?_
  rotate_left
  · intro u hSw
    go_simp
    try with_reducible rfl
  · rfl
  · exact fun _ _ _ h => h
  try simp only [Act.put, List.setIfInBounds_toArray, List.set_cons_zero, List.set_cons_succ]
  refine held_take (i := 1) (fuel := 8) (v := ?_) (by rw [List.getElem?_toArray]; rfl) (by kernel_rfl) (by kernel_rfl) (by kernel_rfl) hHeld ?_ ?_ ?_ ?_
  rotate_left
  · intro u hSw
    have d4 := hSw.2.cell 4
    have d5 := hSw.2.cell 5
    simp [sCells, SL.A1, SL.n1, SL.c1, SL.A2, SL.n2, SL.c2] at d4 d5
    go_simp
    try with_reducible rfl
  · rfl
  · exact fun _ _ _ h => h
  try simp only [Act.put, List.setIfInBounds_toArray, List.set_cons_zero, List.set_cons_succ]
  refine held_take (i := 3) (fuel := 7) (v := ?_) (by rw [List.getElem?_toArray]; rfl) (by kernel_rfl) (by kernel_rfl) (by kernel_rfl) hHeld ?_ ?_ ?_ ?_
  rotate_left
  · intro u hSw
    go_simp
    try with_reducible rfl
  · rfl
  · exact fun _ _ _ h => h
  try simp only [Act.put, List.setIfInBounds_toArray, List.set_cons_zero, List.set_cons_succ]
  refine held_take (i := 4) (fuel := 6) (v := ?_) (by rw [List.getElem?_toArray]; rfl) (by kernel_rfl) (by kernel_rfl) (by kernel_rfl) hHeld ?_ ?_ ?_ ?_
  rotate_left
  · intro u hSw
    have d4 := hSw.2.cell 4
    have d5 := hSw.2.cell 5
    simp [sCells, SL.A1, SL.n1, SL.c1, SL.A2, SL.n2, SL.c2] at d4 d5
    go_simp
    try with_reducible rfl
  · rfl
  · exact fun _ _ _ h => h
  try simp only [Act.put, List.setIfInBounds_toArray, List.set_cons_zero, List.set_cons_succ]
  refine held_one (i := 2) (fuel := 5) (by kernel_rfl) (by rw [List.getElem?_toArray]; rfl) (fun K hK => ?_)
  go_simp
  refine HCB.out.mono ?_
  rintro e w4 ⟨A5, n5, c5, bs5, rfl, hr5, hF5, hI5, hT5, hP5, hm5, hb5⟩
  refine hK.out _ _ ?_ (fun hHeld => ?_)
  · exact ⟨hHeld.1.trans (hb5.mono (Nat.le_trans (Nat.le_of_eq HS2.out.symm) hHeld.1.size)), HBX.out.below (hHeld.1.trans (hb5.mono (Nat.le_trans (Nat.le_of_eq HS2.out.symm) hHeld.1.size))) (show w.heap.size < w.heap.size + 2 by omega)⟩
  clear hK K
  try simp only [Act.put, List.setIfInBounds_toArray, List.set_cons_zero, List.set_cons_succ]
  have HB5 : Hid (Below Vd.heap.size Vd w4) := Lib.hid hb5
  have HM5 := Lib.hid hm5
  have HP5 := Lib.hid hP5
  have HR5 : Hid (RowS6 w4 w4.heap.size A5 n5 bs5 ∧ (∀ y ∈ bs5, y.In w4 w4.heap.size)) := Lib.hid ⟨hr5, hI5⟩
  have HF5 : Hid (FreshRow (w.heap.size + 3) A5 n5 c5) := Lib.hid (hF5.down HSV.out)
  have HT5 : Hid (∀ y ∈ bs5, y.At (fun b => S b ∨ w.heap.size + 3 ≤ b)) := Lib.hid (fun y hy => (hT5 y hy).mono fun b hb => hb.imp id (fun h => Nat.le_trans HSV.out h))
  have HV4 := Lib.hid (HVD.out.below hb5)
  have HCE : Hid (Calls Try.prog 12 #[.slice A2 n2 c2] w4 fun e w' => ∃ (A' : Option Addr) (m c' : Nat) (ys : List SL), e = .returned (.slice A' m c') ∧ RowS6 w' w'.heap.size A' m ys ∧ FreshRow w4.heap.size A' m c' ∧ (∀ y ∈ ys, y.In w' w'.heap.size) ∧ (∀ y ∈ ys, y.At (fun b => S b ∨ w4.heap.size ≤ b)) ∧ ys.map plS = foldGo [] (el.map plS) ∧ m * 104 ≤ 140737488355328 ∧ Below w4.heap.size w4 w') := Lib.hid (by
    obtain ⟨⟨_, _, _, p3, p4⟩, p5, p6⟩ := HV4.out.si.parts
    exact HEX.out.2 S w4 A2 n2 c2 p4 (fun y hy => SL.Ins.mem p6 y hy) HQA.out.2 (fun b hb => Nat.lt_of_lt_of_le (HSB.out b hb) (Nat.le_trans HB4.out.size HB5.out.size)) HL2.out.2.1 HL2.out.2.2)
  clear hr5 hF5 hI5 hT5 hP5 hm5 hb5
  refine held_take (i := 6) (fuel := 4) (v := ?_) (by rw [List.getElem?_toArray]; rfl) (by kernel_rfl) (by kernel_rfl) (by kernel_rfl) hHeld ?_ ?_ ?_ ?_
  rotate_left
  · intro u hSw
    go_simp
    try with_reducible rfl
  · rfl
  · exact fun _ _ _ h => h
  try simp only [Act.put, List.setIfInBounds_toArray, List.set_cons_zero, List.set_cons_succ]
  refine held_one (i := 5) (fuel := 3) (by kernel_rfl) (by rw [List.getElem?_toArray]; rfl) (fun K hK => ?_)
  go_simp
  refine HCE.out.mono ?_
  rintro e w5 ⟨A6, n6, c6, es6, rfl, hr6, hF6, hI6, hT6, hP6, hm6, hb6⟩
  refine hK.out _ _ ?_ (fun hHeld => ?_)
  · exact ⟨hHeld.1.trans (hb6.mono (Nat.le_trans (Nat.le_of_eq HS2.out.symm) hHeld.1.size)), HBX.out.below (hHeld.1.trans (hb6.mono (Nat.le_trans (Nat.le_of_eq HS2.out.symm) hHeld.1.size))) (show w.heap.size < w.heap.size + 2 by omega)⟩
  clear hK K
  try simp only [Act.put, List.setIfInBounds_toArray, List.set_cons_zero, List.set_cons_succ]
  have HB6 : Hid (Below Vd.heap.size Vd w5) := Lib.hid (HB5.out.trans (hb6.mono HB5.out.size))
  have HM6 := Lib.hid hm6
  have HP6 := Lib.hid hP6
  have HR6 : Hid (RowS6 w5 w5.heap.size A6 n6 es6 ∧ (∀ y ∈ es6, y.In w5 w5.heap.size)) := Lib.hid ⟨hr6, hI6⟩
  have HR5' : Hid (RowS6 w5 w5.heap.size A5 n5 bs5 ∧ (∀ y ∈ bs5, y.In w5 w5.heap.size)) := Lib.hid ⟨(HR5.out.1.below hb6).more hb6.size, fun y hy => ((HR5.out.2 y hy).below hb6).more hb6.size⟩
  have h45 : w.heap.size + 3 ≤ w4.heap.size := Nat.le_trans HSV.out HB5.out.size
  have HF6 : Hid (FreshRow (w.heap.size + 3) A6 n6 c6) := Lib.hid (hF6.down h45)
  have HT6 : Hid (∀ y ∈ es6, y.At (fun b => S b ∨ w.heap.size + 3 ≤ b)) := Lib.hid (fun y hy => (hT6 y hy).mono fun b hb => hb.imp id (fun h => Nat.le_trans h45 h))
  have HX7 : Hid (BSt S (w.heap.size + 2) W2 (w5.setCell ⟨w.heap.size + 2, 4, none⟩ (.slice A5 n5 c5)) (SL.mk k m s A4 n c4 fs A5 n5 c5 bs5 A2 n2 c2 el)) := Lib.hid (HVD.out.bodyP HSB2.out HB6.out HR5'.out.1 HF5.out HR5'.out.2 HT5.out)
  have HX9 : Hid (BSt S (w.heap.size + 2) W2 ((w5.setCell ⟨w.heap.size + 2, 4, none⟩ (.slice A5 n5 c5)).setCell ⟨w.heap.size + 2, 5, none⟩ (.slice A6 n6 c6)) (SL.mk k m s A4 n c4 fs A5 n5 c5 bs5 A6 n6 c6 es6)) := Lib.hid (by
    have hk : ∀ p : Addr, (S p.block ∨ w.heap.size + 3 ≤ p.block) → p.block < w5.heap.size → (w5.setCell ⟨w.heap.size + 2, 4, none⟩ (.slice A5 n5 c5)).cell? p = w5.cell? p := fun p hp _ => cell_of_heap (Below.heap_setCell _ _ _ _ (by
      show p.block ≠ w.heap.size + 2
      rcases hp with hp | hp
      · have := HSB2.out _ hp
        omega
      · omega))
    have hz : (w5.setCell ⟨w.heap.size + 2, 4, none⟩ (.slice A5 n5 c5)).heap.size = w5.heap.size := by simp [World.setCell]
    refine HX7.out.elsP HSB2.out (Below.refl _ _) (HR6.out.1.keepS (S := fun b => S b ∨ w.heap.size + 3 ≤ b) (fun _ ad e => .inr (HF6.out.2 ad e).1) (by omega) hk) HF6.out (fun y hy => (HR6.out.2 y hy).keepS (S := fun b => S b ∨ w.heap.size + 3 ≤ b) (by omega) hk (HT6.out y hy)) HT6.out)
  have HV6 := Lib.hid (HVD.out.bx.below HB6.out HVD.out.lt)
  have g4 := HV6.out.cell 4
  have f4 := HV6.out.frozen 4
  simp [sCells, SL.A1, SL.n1, SL.c1] at g4 f4
  have g5 := HX7.out.bx.cell 5
  have f5 := HX7.out.bx.frozen 5
  simp [sCells, SL.A2, SL.n2, SL.c2] at g5 f5
  clear hr6 hF6 hI6 hT6 hP6 hm6 hb6 h45
  refine held_one (i := 7) (fuel := 2) (by kernel_rfl) (by rw [List.getElem?_toArray]; rfl) (fun K hK => ?_)
  go_simp
  refine hK.out _ _ ?_ (fun hHeld => ?_)
  · exact ⟨by have := HX7.out.blw; exact this, HBX.out.below HX7.out.blw (show w.heap.size < w.heap.size + 2 by omega)⟩
  clear hK K
  try simp only [Act.put, List.setIfInBounds_toArray, List.set_cons_zero, List.set_cons_succ]
  refine held_take (i := 8) (fuel := 1) (v := ?_) (by rw [List.getElem?_toArray]; rfl) (by kernel_rfl) (by kernel_rfl) (by kernel_rfl) hHeld ?_ ?_ ?_ ?_
  rotate_left
  · intro u hSw
    go_simp
    try with_reducible rfl
  · rfl
  · exact fun _ _ _ h => h
  try simp only [Act.put, List.setIfInBounds_toArray, List.set_cons_zero, List.set_cons_succ]
  refine held_one (i := 9) (fuel := 0) (by kernel_rfl) (by rw [List.getElem?_toArray]; rfl) (fun K hK => ?_)
  go_simp
  refine hK.out _ _ ?_ (fun hHeld => ?_)
  · exact ⟨by have := HX9.out.blw; exact this, HBX.out.below HX9.out.blw (show w.heap.size < w.heap.size + 2 by omega)⟩
  clear hK K
  try simp only [Act.put, List.setIfInBounds_toArray, List.set_cons_zero, List.set_cons_succ]
  refine wpAnyH_done (by kernel_rfl) ?_ _
  clear hHeld g4 f4 g5 f5
  have d0 := HX9.out.bx.cell 0
  have d1 := HX9.out.bx.cell 1
  have d2 := HX9.out.bx.cell 2
  have d3 := HX9.out.bx.cell 3
  have d4 := HX9.out.bx.cell 4
  have d5 := HX9.out.bx.cell 5
  simp [sCells, SL.kind, SL.num, SL.name, SL.A, SL.n, SL.c, SL.A1, SL.n1, SL.c1, SL.A2, SL.n2, SL.c2] at d0 d1 d2 d3 d4 d5
  obtain ⟨V9, hV9⟩ : ∃ V9, V9 = (w5.setCell ⟨w.heap.size + 2, 4, none⟩ (.slice A5 n5 c5)).setCell ⟨w.heap.size + 2, 5, none⟩ (.slice A6 n6 c6) := ⟨_, rfl⟩
  rw [← hV9] at d0 d1 d2 d3 d4 d5 HX9 ⊢
  clear hV9
  have HRS9 := Lib.hid (HRS.out.below HX9.out.blw (show w.heap.size + 1 < w.heap.size + 2 by omega))
  go_wp2_with (refine wpList_store_row rfl 48 _ _ rfl (w.heap.size + 1) #[.int .i64 k, .int .i64 m, .string (bs s), .slice A4 n c4, .slice A5 n5 c5, .slice A6 n6 c6] rfl rfl _ _ HRS9.out stmt_sizeF rfl (stmt_oneF _ _ _ _ _ _ _ _ _ _ _ _) ?_)
  (try simp only [Exit.inBlock, Exit.then]); refine bodyPost_ret (results_cell_row rfl _ _ _ _ _ _ _ rfl (setRow_heap _ _ _ _ _ _ HRS9.out) Try.underlying48 rfl (by kernel_rfl)) rfl ?_
  exact stmt_out HX9.out HB2.out HS2.out HSB.out HF5.out HF6.out HM5.out HM6.out (by
    rw [HPL.out, foldS_eq, plS_eq]
    simp only [SL.kind, SL.num, SL.name, SL.args, SL.body, SL.els, PS.kind, PS.num, PS.name, PS.args, PS.body, PS.els, List.map_map]
    rw [HFS.out, HP5.out, HP6.out]
    rfl) _

end

section
open Go.RowKit
set_option linter.unusedVariables false
set_option linter.unusedSimpArgs false

theorem own_farP {w : World} {base g : Nat} {e : TypeId} {size n : Nat} {v : Value} {xs : List Value} (h : w.ownsRow base e size v n xs) (hg : g < base) (i : Nat) (u : Value) : (w.setCell ⟨g, i, none⟩ u).ownsRow base e size v n xs :=
  h.kept (row := some g) ⟨rfl, rfl, rfl, by simp [World.setCell], fun k _ hk => Below.heap_setCell _ _ _ _ (fun e => hk (by rw [e]))⟩ (.inr fun e => by have := (h.lt g e).1; omega)

/-- the rounds: what is collected lies in a cell of its own -/
structure FInvP (S : Nat → Prop) (w wr : World) (ss : List SL) (n j : Nat) (A : Option Addr) (m c : Nat) (ys : List SL) : Prop where
  cel : Blk wr w.heap.size 32 #[.slice A m c]
  own : wr.ownsRow (w.heap.size + 1) 48 6 (.slice A m c) m (scw ys)
  ins : ∀ y ∈ ys, y.In wr wr.heap.size
  ats : ∀ y ∈ ys, y.At (fun b => (S b ∨ w.heap.size + 1 ≤ b) ∧ (Value.slice A m c).ownBlock ≠ some b)
  val : foldGo (ys.map plS) ((ss.drop j).map plS) = foldGo [] (ss.map plS)
  len : m + (n - j) ≤ max 256 n
  blw : Below w.heap.size w wr

theorem FInvP.below {S : Nat → Prop} {w V V' : World} {ss : List SL} {n j : Nat} {A : Option Addr} {m c : Nat} {ys : List SL} (h : FInvP S w V ss n j A m c ys) (hb : Below V.heap.size V V') : FInvP S w V' ss n j A m c ys :=
  ⟨h.cel.below hb h.cel.lt, own_below h.own hb, fun y hy => ((h.ins y hy).below hb).more hb.size, h.ats, h.val, h.len, h.blw.trans (hb.mono h.blw.size)⟩

theorem FInvP.app {S : Nat → Prop} {w V w9 : World} {ss : List SL} {n j : Nat} {A : Option Addr} {m c : Nat} {ys : List SL} (h : FInvP S w V ss n j A m c ys) (hl : ss.length = n) (hj : j < n) {x : SL} (hx : x = ss[j]?.getD nilS) (hS : ∀ b, S b → b < w.heap.size)
    {zs : List SL} {mz B1 : Nat} (hz : zs.length = mz) (hzI : ∀ y ∈ zs, y.In V V.heap.size) (hzA : ∀ y ∈ zs, y.At (fun b => S b ∨ B1 ≤ b)) (hB1 : w.heap.size + 1 ≤ B1) (hown1 : ∀ g, (Value.slice A m c).ownBlock = some g → g < B1) (he : stepB (ys.map plS) (n - j - 1) (foldS (plS x)) = ys.map plS ++ zs.map plS)
    {A' : Option Addr} {c' : Nat} (ho : w9.ownsRow (w.heap.size + 1) 48 6 (.slice A' (m + mz) c') (m + mz) (scw (ys ++ zs))) (hg : V.grownBy w9 (Value.slice A m c).ownBlock) (hob : (Value.slice A' (m + mz) c').ownBlock = (Value.slice A m c).ownBlock ∨ (Value.slice A' (m + mz) c').ownBlock = some V.heap.size) :
    FInvP S w (w9.setCell ⟨w.heap.size, 0, none⟩ (.slice A' (m + mz) c')) ss n (j + 1) A' (m + mz) c' (ys ++ zs) := by
  have hws := h.blw.size
  have hown : ∀ g, (Value.slice A m c).ownBlock = some g → w.heap.size + 1 ≤ g ∧ g < V.heap.size := fun g hg => h.own.lt g hg
  have hI : ∀ y ∈ ys ++ zs, y.In V V.heap.size := fun y hy => by
    rcases List.mem_append.1 hy with hy | hy
    · exact h.ins y hy
    · exact hzI y hy
  have hA : ∀ y ∈ ys ++ zs, y.At (fun b => (S b ∨ w.heap.size + 1 ≤ b) ∧ (Value.slice A m c).ownBlock ≠ some b) := fun y hy => by
    rcases List.mem_append.1 hy with hy | hy
    · exact h.ats y hy
    · refine (hzA y hy).mono fun b hb => ?_
      rcases hb with hb | hb
      · exact ⟨.inl hb, fun e => by have := (hown b e).1; have := hS b hb; omega⟩
      · exact ⟨.inr (by omega), fun e => by have := hown1 b e; omega⟩
  have hjl : j < ss.length := by omega
  have hv : foldGo (stepB (ys.map plS) (n - j - 1) (foldS (plS x))) ((ss.drop (j + 1)).map plS) = foldGo [] (ss.map plS) := by
    have hd : ss.drop j = x :: ss.drop (j + 1) := by rw [hx, List.getElem?_eq_getElem hjl, List.drop_eq_getElem_cons hjl]; rfl
    have := h.val
    rw [hd, List.map_cons, foldGo_cons, List.length_map, List.length_drop, hl, show n - (j + 1) = n - j - 1 from by omega] at this
    exact this
  have hml := ownFS_len h.own
  have hsz : (w9.setCell ⟨w.heap.size, 0, none⟩ (.slice A' (m + mz) c')).heap.size = w9.heap.size := by simp [World.setCell]
  refine ⟨(h.cel.grown hg (fun e => by have := (hown _ e.symm).1; omega)).set_ 0 _, own_farP ho (Nat.lt_succ_self _) 0 _, fun y hy => ?_, fun y hy => ?_, ?_, ?_, (h.blw.grown hg hws (fun g e => by have := (hown g e).1; omega)).setCell (p := ⟨w.heap.size, 0, none⟩) (Nat.le_refl _) _⟩
  · rw [hsz]
    refine (hI y hy).keepS hg.size (fun p hp hlt => ?_) (hA y hy)
    have e1 : (w9.setCell ⟨w.heap.size, 0, none⟩ (.slice A' (m + mz) c')).cell? p = w9.cell? p := cell_of_heap (Below.heap_setCell _ _ _ _ (by
      show p.block ≠ w.heap.size
      rcases hp.1 with hb | hb
      · have := hS _ hb
        omega
      · omega))
    exact e1.trans (cell_of_heap (hg.block p.block hlt (fun e => hp.2 e.symm)))
  · refine ((hA y hy).and (hI y hy).atB).mono fun b hb => ⟨hb.1.1, ?_⟩
    rcases hob with e | e
    · rw [e]
      exact hb.1.2
    · rw [e]
      exact some_ne (by have := hb.2; omega)
  · rw [List.map_append, ← he]
    exact hv
  · have hs := stepB_len (ys.map plS) (n - j - 1) (foldS (plS x))
    rw [he, List.length_append, List.length_map, List.length_map, hml, hz] at hs
    have := h.len
    omega

set_option maxRecDepth 100000 in
set_option maxHeartbeats 25600000 in
theorem fblock_of (ss : List SL) (hE : ∀ x ∈ ss, FoldBAt 12 x.body ∧ FoldBAt 12 x.els) : FoldBAt 12 ss := by
  intro S w A n c hrow hins hat hS hlen hlit
  have hl := hrow.1
  have hn63 := hrow.2.1
  have HE := Lib.hid hE
  have HR := Lib.hid hrow
  have HIN := Lib.hid hins
  have HAT := Lib.hid hat
  have HSB := Lib.hid hS
  have HLT := Lib.hid hlit
  have HL := Lib.hid hl
  have HLE := Lib.hid hlen
  obtain ⟨W1, hW1⟩ : ∃ W, W = w.alloc (.cells #[.slice none 0 0] 32) := ⟨_, rfl⟩
  have HF0 : Hid (FInvP S w W1 ss n 0 none 0 0 []) := Lib.hid ⟨by rw [hW1]; exact Blk.new _ _ _, ownFS_nil _ _ _, by simp, by simp, rfl, by omega, by rw [hW1]; exact (Below.refl _ _).alloc (Nat.le_refl _) _⟩
  clear hE hrow hins hat hS hlit hl
  go_enter Try.func12, Try.ntmps12
  go_wp2_with fail
  rw [← hW1]
  clear hW1
  go_loopw [11] (fun vi wr => ∃ (j m cc : Nat) (AA : Option Addr) (ys : List SL), j ≤ n ∧ vi = .int .i64 j ∧ Hid (FInvP S w wr ss n j AA m cc ys)) (fun vi _ => n - (intOf vi).toNat)
  case atStart => exact ⟨0, 0, 0, none, [], Nat.zero_le _, rfl, HF0⟩
  case round =>
    clear HF0
    obtain ⟨j, m0, cc, AA, ys, hj, rfl, HV⟩ := hrel
    by_cases hlt : j < n
    · obtain ⟨ad, rfl, _, hcell⟩ := rowFS_at (HR.out.below HV.out.blw) hlt
      obtain ⟨x, hx⟩ : ∃ x, x = ss[j]?.getD nilS := ⟨_, rfl⟩
      obtain ⟨a0, a1, a2, a3, a4, a5⟩ := hcell x hx
      have hjl : j < ss.length := by rw [HL.out]; exact hlt
      have hmem : x ∈ ss := by rw [hx, List.getElem?_eq_getElem hjl]; exact List.getElem_mem hjl
      have HX := Lib.hid hx
      have HLX := Lib.hid (HLT.out x hmem)
      have HXI := Lib.hid (((HIN.out x hmem).below HV.out.blw).more HV.out.blw.size)
      have HXA := Lib.hid (HAT.out x hmem)
      have HEX := Lib.hid (HE.out x hmem)
      have m1 := HV.out.len
      have wq1 : IntKind.i64.wrap ((n : Int) - (j : Int)) = (n : Int) - (j : Int) := by rw [IntKind.wrap_i64]; omega
      have wq2 : wrap64 ((n : Int) - (j : Int)) = (n : Int) - (j : Int) := IntWalk.wrap64_in _ (by omega)
      have wq3 : IntKind.i64.wrap ((n : Int) - (j : Int) - 1) = (n : Int) - (j : Int) - 1 := by rw [IntKind.wrap_i64]; omega
      have wq4 : wrap64 ((n : Int) - (j : Int) - 1) = (n : Int) - (j : Int) - 1 := IntWalk.wrap64_in _ (by omega)
      have wq5 : IntKind.i64.wrap (256 - (m0 : Int)) = 256 - (m0 : Int) := by rw [IntKind.wrap_i64]; omega
      have wq6 : wrap64 (256 - (m0 : Int)) = 256 - (m0 : Int) := IntWalk.wrap64_in _ (by omega)
      have wq7 : IntKind.i64.wrap (256 - (m0 : Int) - ((n : Int) - (j : Int) - 1)) = 256 - (m0 : Int) - ((n : Int) - (j : Int) - 1) := by rw [IntKind.wrap_i64]; omega
      have wq8 : wrap64 (256 - (m0 : Int) - ((n : Int) - (j : Int) - 1)) = 256 - (m0 : Int) - ((n : Int) - (j : Int) - 1) := IntWalk.wrap64_in _ (by omega)
      clear hx hcell hmem hjl m1
      obtain ⟨k, q, s, A1, n1, c1, es, A2, n2, c2, bo, A3, n3, c3, el⟩ := x
      simp only [SL.kind, SL.num, SL.name, SL.A, SL.n, SL.c, SL.A1, SL.n1, SL.c1, SL.A2, SL.n2, SL.c2] at a0 a1 a2 a3 a4 a5
      go_wp2_with (refine wpList_store_row rfl 48 _ _ rfl wr.heap.size #[.int .i64 k, .int .i64 q, .string (bs s), .slice A1 n1 c1, .slice A2 n2 c2, .slice A3 n3 c3] rfl rfl _ _ (Blk.new wr _ _) stmt_sizeF rfl (stmt_oneF _ _ _ _ _ _ _ _ _ _ _ _) ?_; obtain ⟨V, hV⟩ : ∃ V, V = (wr.alloc (.cells #[.int .i64 0, .int .i64 0, .string ⟨#[]⟩, .slice none 0 0, .slice none 0 0, .slice none 0 0] 48)).setRow wr.heap.size #[.int .i64 k, .int .i64 q, .string (bs s), .slice A1 n1 c1, .slice A2 n2 c2, .slice A3 n3 c3] := ⟨_, rfl⟩; rw [← hV]; obtain ⟨hkV0, hbV0⟩ := put_row hV; have HKV := Lib.hid hkV0; have HBV := Lib.hid hbV0; clear hV hkV0 hbV0)
      clear a0 a1 a2 a3 a4 a5
      obtain ⟨Vd, hVd⟩ : ∃ Vd, Vd = V.drew := ⟨_, rfl⟩
      have HBW : Hid (Below wr.heap.size wr Vd) := Lib.hid (by rw [hVd]; exact HBV.out.drew)
      have HBX : Hid (Blk Vd wr.heap.size 48 (sCells (SL.mk k q s A1 n1 c1 es A2 n2 c2 bo A3 n3 c3 el))) := Lib.hid (by rw [hVd]; exact HKV.out)
      have HFV := Lib.hid (HV.out.below HBW.out)
      have HST := Lib.hid (fstmt_of (SL.mk k q s A1 n1 c1 es A2 n2 c2 bo A3 n3 c3 el) HEX.out S Vd ((HXI.out.below HBW.out).more HBW.out.size) HXA.out (fun b hb => Nat.lt_of_lt_of_le (HSB.out b hb) HFV.out.blw.size) HLX.out)
      have k0 := HFV.out.cel.cell 0
      simp at k0
      clear HKV HBV
      refine wp_region_held_drew (S := fun u => Below w.heap.size w u ∧ Blk u wr.heap.size 48 (sCells (SL.mk k q s A1 n1 c1 es A2 n2 c2 bo A3 n3 c3 el))) (by kernel_rfl) (by rw [← hVd]; exact ⟨HFV.out.blw, HBX.out⟩) (fun hHeld => ?_)
      rw [← hVd] at hHeld ⊢
      clear hVd
      refine held_take (i := 0) (fuel := 9) (v := ?_) (by rw [List.getElem?_toArray]; rfl) (by kernel_rfl) (by kernel_rfl) (by kernel_rfl) hHeld ?_ ?_ ?_ ?_
      rotate_left
      · intro u hSw
        go_simp
        try with_reducible rfl
      · rfl
      · exact fun _ _ _ h => h
      try simp only [Act.put, List.setIfInBounds_toArray, List.set_cons_zero, List.set_cons_succ]
      refine held_take (i := 1) (fuel := 8) (v := ?_) (by rw [List.getElem?_toArray]; rfl) (by kernel_rfl) (by kernel_rfl) (by kernel_rfl) hHeld ?_ ?_ ?_ ?_
      rotate_left
      · intro u hSw
        have d0 := hSw.2.cell 0
        have d1 := hSw.2.cell 1
        have d2 := hSw.2.cell 2
        have d3 := hSw.2.cell 3
        have d4 := hSw.2.cell 4
        have d5 := hSw.2.cell 5
        simp [sCells, SL.kind, SL.num, SL.name, SL.A, SL.n, SL.c, SL.A1, SL.n1, SL.c1, SL.A2, SL.n2, SL.c2] at d0 d1 d2 d3 d4 d5
        go_simp
        try with_reducible rfl
      · rfl
      · exact fun _ _ _ h => h
      try simp only [Act.put, List.setIfInBounds_toArray, List.set_cons_zero, List.set_cons_succ]
      refine held_take (i := 6) (fuel := 7) (v := ?_) (by rw [List.getElem?_toArray]; rfl) (by kernel_rfl) (by kernel_rfl) (by kernel_rfl) hHeld ?_ ?_ ?_ ?_
      rotate_left
      · intro u hSw
        go_simp
        try with_reducible rfl
      · rfl
      · exact fun _ _ _ h => h
      try simp only [Act.put, List.setIfInBounds_toArray, List.set_cons_zero, List.set_cons_succ]
      refine wpAnyH_ready (rs := [2, 3]) (fuel := 6) (by kernel_rfl) (by simp) ?_
      refine AllReadyH.cons (by rw [List.getElem?_toArray]; rfl) (fun K hK => ?_) ?_
      ·
        go_simp
        refine HST.out.mono ?_
        rintro e w1 ⟨y, rfl, yI, yA, yF1, yF2, m1, m2, yP, hb1⟩
        refine hK.out _ _ ?_ (fun hHeld => ?_)
        · exact ⟨hHeld.1.trans (hb1.mono hHeld.1.size), hHeld.2.below hb1 hHeld.2.lt⟩
        clear hK K
        try simp only [Act.put, List.setIfInBounds_toArray, List.set_cons_zero, List.set_cons_succ]
        have HY1 := Lib.hid yI
        have HYA := Lib.hid yA
        have HYF : Hid (FreshRow 0 y.A1 y.n1 y.c1 ∧ FreshRow 0 y.A2 y.n2 y.c2 ∧ y.n1 * 104 ≤ 140737488355328 ∧ y.n2 * 104 ≤ 140737488355328) := Lib.hid ⟨yF1.down (Nat.zero_le _), yF2.down (Nat.zero_le _), m1, m2⟩
        have HYP := Lib.hid yP
        have HF1 := Lib.hid (HFV.out.below hb1)
        have HBD1 := Lib.hid hb1
        have k1 := HF1.out.cel.cell 0
        simp at k1
        have HDC := Lib.hid (fdecided_any (fun b => S b ∨ Vd.heap.size ≤ b) y (256 - (m0 : Int) - ((n : Int) - (j : Int) - 1)) w1 HY1.out HYA.out HYF.out.1 HYF.out.2.1 HYF.out.2.2.1 HYF.out.2.2.2)
        clear yI yA yF1 yF2 m1 m2 yP hb1
        refine held_one (i := 3) (fuel := 5) (by kernel_rfl) (by rw [List.getElem?_toArray]; rfl) (fun K hK => ?_)
        go_simp
        refine hK.out _ _ ?_ (fun hHeld => ?_)
        · exact hHeld
        clear hK K
        try simp only [Act.put, List.setIfInBounds_toArray, List.set_cons_zero, List.set_cons_succ]
        refine held_take (i := 4) (fuel := 4) (v := ?_) (by rw [List.getElem?_toArray]; rfl) (by kernel_rfl) (by kernel_rfl) (by kernel_rfl) hHeld ?_ ?_ ?_ ?_
        rotate_left
        · intro u hSw
          go_simp
          try with_reducible rfl
        · rfl
        · exact fun _ _ _ h => h
        try simp only [Act.put, List.setIfInBounds_toArray, List.set_cons_zero, List.set_cons_succ]
        refine held_take (i := 5) (fuel := 3) (v := ?_) (by rw [List.getElem?_toArray]; rfl) (by kernel_rfl) (by kernel_rfl) (by kernel_rfl) hHeld ?_ ?_ ?_ ?_
        rotate_left
        · intro u hSw
          go_simp
          try with_reducible rfl
        · rfl
        · exact fun _ _ _ h => h
        try simp only [Act.put, List.setIfInBounds_toArray, List.set_cons_zero, List.set_cons_succ]
        refine held_take (i := 7) (fuel := 2) (v := ?_) (by rw [List.getElem?_toArray]; rfl) (by kernel_rfl) (by kernel_rfl) (by kernel_rfl) hHeld ?_ ?_ ?_ ?_
        rotate_left
        · intro u hSw
          go_simp
          try with_reducible rfl
        · rfl
        · exact fun _ _ _ h => h
        try simp only [Act.put, List.setIfInBounds_toArray, List.set_cons_zero, List.set_cons_succ]
        refine held_one (i := 8) (fuel := 1) (by kernel_rfl) (by rw [List.getElem?_toArray]; rfl) (fun K hK => ?_)
        go_simp
        refine HDC.out.mono ?_
        rintro e w2 ⟨A9, m9, c9, zs, rfl, rR, rF, rI, rA, rP, rm, hb2⟩
        refine hK.out _ _ ?_ (fun hHeld => ?_)
        · exact ⟨hHeld.1.trans (hb2.mono hHeld.1.size), hHeld.2.below hb2 hHeld.2.lt⟩
        clear hK K
        try simp only [Act.put, List.setIfInBounds_toArray, List.set_cons_zero, List.set_cons_succ]
        have HF2 := Lib.hid (HF1.out.below hb2)
        have HE9 : Hid (stepB (ys.map plS) (n - j - 1) (foldS (plS (SL.mk k q s A1 n1 c1 es A2 n2 c2 bo A3 n3 c3 el))) = ys.map plS ++ zs.map plS) := Lib.hid (by
          rw [decV_step, rP, HYP.out, List.length_map, ownFS_len HF2.out.own]
          congr 2
          omega)
        have hzl : zs.length = m9 := rR.1
        have HBY9 : Hid ((m0 + m9) * 104 ≤ 140737488355328) := Lib.hid (by
          have h := stepB_len (ys.map plS) (n - j - 1) (foldS (plS (SL.mk k q s A1 n1 c1 es A2 n2 c2 bo A3 n3 c3 el)))
          rw [HE9.out, List.length_append, List.length_map, List.length_map, ownFS_len HF2.out.own, hzl] at h
          have := HF2.out.len
          have := HLE.out
          omega)
        have HZL := Lib.hid hzl
        have HZI := Lib.hid rI
        have HZA := Lib.hid rA
        have HCO := Lib.hid (fcollect_any w2 w.heap.size (w.heap.size + 1) AA m0 cc ys A9 m9 c9 w2.heap.size zs (Nat.lt_succ_self _) HF2.out.cel HF2.out.own rF rR HBY9.out HF2.out.cel.lt)
        have HBX2 := Lib.hid hHeld
        clear rR rF rI rA rP rm hb2 hzl k1
        refine held_one (i := 9) (fuel := 0) (by kernel_rfl) (by rw [List.getElem?_toArray]; rfl) (fun K hK => ?_)
        go_simp
        refine HCO.out.mono ?_
        rintro e w3 ⟨rfl, A', c', w9, ho9, hg9, hob9, rfl⟩
        have HFA : Hid (FInvP S w (w9.setCell ⟨w.heap.size, 0, none⟩ (.slice A' (m0 + m9) c')) ss n (j + 1) A' (m0 + m9) c' (ys ++ zs)) := Lib.hid (HF2.out.app HL.out hlt HX.out HSB.out HZL.out HZI.out HZA.out (by have h1 := HFV.out.cel.lt; omega) (fun g e => by have h1 := (HV.out.own.lt g e).2; have h2 := HBW.out.size; omega) HE9.out ho9 hg9 hob9)
        refine hK.out _ _ ?_ (fun hHeld => ?_)
        · exact ⟨HFA.out.blw, (HBX2.out.2.grown hg9 (fun e => by have h1 := (HV.out.own.lt wr.heap.size e.symm).2; omega)).far (show wr.heap.size ≠ w.heap.size by have := HV.out.cel.lt; omega) _⟩
        clear hK K
        try simp only [Act.put, List.setIfInBounds_toArray, List.set_cons_zero, List.set_cons_succ]
        clear ho9 hg9 hob9
        refine wpAnyH_done (by kernel_rfl) ?_ _
        clear hHeld
        go_wp2_with fail
        go_roundw
        case rel => exact ⟨j + 1, _, _, _, _, by omega, by go_num, HFA⟩
        case measure => simp [intOf]; omega
      refine AllReadyH.cons (by rw [List.getElem?_toArray]; rfl) (fun K hK => ?_) ?_
      ·
        go_simp
        refine hK.out _ _ ?_ (fun hHeld => ?_)
        · exact hHeld
        clear hK K
        try simp only [Act.put, List.setIfInBounds_toArray, List.set_cons_zero, List.set_cons_succ]
        refine held_take (i := 4) (fuel := 5) (v := ?_) (by rw [List.getElem?_toArray]; rfl) (by kernel_rfl) (by kernel_rfl) (by kernel_rfl) hHeld ?_ ?_ ?_ ?_
        rotate_left
        · intro u hSw
          go_simp
          try with_reducible rfl
        · rfl
        · exact fun _ _ _ h => h
        try simp only [Act.put, List.setIfInBounds_toArray, List.set_cons_zero, List.set_cons_succ]
        refine held_take (i := 5) (fuel := 4) (v := ?_) (by rw [List.getElem?_toArray]; rfl) (by kernel_rfl) (by kernel_rfl) (by kernel_rfl) hHeld ?_ ?_ ?_ ?_
        rotate_left
        · intro u hSw
          go_simp
          try with_reducible rfl
        · rfl
        · exact fun _ _ _ h => h
        try simp only [Act.put, List.setIfInBounds_toArray, List.set_cons_zero, List.set_cons_succ]
        refine held_take (i := 7) (fuel := 3) (v := ?_) (by rw [List.getElem?_toArray]; rfl) (by kernel_rfl) (by kernel_rfl) (by kernel_rfl) hHeld ?_ ?_ ?_ ?_
        rotate_left
        · intro u hSw
          go_simp
          try with_reducible rfl
        · rfl
        · exact fun _ _ _ h => h
        try simp only [Act.put, List.setIfInBounds_toArray, List.set_cons_zero, List.set_cons_succ]
        refine held_one (i := 2) (fuel := 2) (by kernel_rfl) (by rw [List.getElem?_toArray]; rfl) (fun K hK => ?_)
        go_simp
        refine HST.out.mono ?_
        rintro e w1 ⟨y, rfl, yI, yA, yF1, yF2, m1, m2, yP, hb1⟩
        refine hK.out _ _ ?_ (fun hHeld => ?_)
        · exact ⟨hHeld.1.trans (hb1.mono hHeld.1.size), hHeld.2.below hb1 hHeld.2.lt⟩
        clear hK K
        try simp only [Act.put, List.setIfInBounds_toArray, List.set_cons_zero, List.set_cons_succ]
        have HY1 := Lib.hid yI
        have HYA := Lib.hid yA
        have HYF : Hid (FreshRow 0 y.A1 y.n1 y.c1 ∧ FreshRow 0 y.A2 y.n2 y.c2 ∧ y.n1 * 104 ≤ 140737488355328 ∧ y.n2 * 104 ≤ 140737488355328) := Lib.hid ⟨yF1.down (Nat.zero_le _), yF2.down (Nat.zero_le _), m1, m2⟩
        have HYP := Lib.hid yP
        have HF1 := Lib.hid (HFV.out.below hb1)
        have HBD1 := Lib.hid hb1
        have k1 := HF1.out.cel.cell 0
        simp at k1
        have HDC := Lib.hid (fdecided_any (fun b => S b ∨ Vd.heap.size ≤ b) y (256 - (m0 : Int) - ((n : Int) - (j : Int) - 1)) w1 HY1.out HYA.out HYF.out.1 HYF.out.2.1 HYF.out.2.2.1 HYF.out.2.2.2)
        clear yI yA yF1 yF2 m1 m2 yP hb1
        refine held_one (i := 8) (fuel := 1) (by kernel_rfl) (by rw [List.getElem?_toArray]; rfl) (fun K hK => ?_)
        go_simp
        refine HDC.out.mono ?_
        rintro e w2 ⟨A9, m9, c9, zs, rfl, rR, rF, rI, rA, rP, rm, hb2⟩
        refine hK.out _ _ ?_ (fun hHeld => ?_)
        · exact ⟨hHeld.1.trans (hb2.mono hHeld.1.size), hHeld.2.below hb2 hHeld.2.lt⟩
        clear hK K
        try simp only [Act.put, List.setIfInBounds_toArray, List.set_cons_zero, List.set_cons_succ]
        have HF2 := Lib.hid (HF1.out.below hb2)
        have HE9 : Hid (stepB (ys.map plS) (n - j - 1) (foldS (plS (SL.mk k q s A1 n1 c1 es A2 n2 c2 bo A3 n3 c3 el))) = ys.map plS ++ zs.map plS) := Lib.hid (by
          rw [decV_step, rP, HYP.out, List.length_map, ownFS_len HF2.out.own]
          congr 2
          omega)
        have hzl : zs.length = m9 := rR.1
        have HBY9 : Hid ((m0 + m9) * 104 ≤ 140737488355328) := Lib.hid (by
          have h := stepB_len (ys.map plS) (n - j - 1) (foldS (plS (SL.mk k q s A1 n1 c1 es A2 n2 c2 bo A3 n3 c3 el)))
          rw [HE9.out, List.length_append, List.length_map, List.length_map, ownFS_len HF2.out.own, hzl] at h
          have := HF2.out.len
          have := HLE.out
          omega)
        have HZL := Lib.hid hzl
        have HZI := Lib.hid rI
        have HZA := Lib.hid rA
        have HCO := Lib.hid (fcollect_any w2 w.heap.size (w.heap.size + 1) AA m0 cc ys A9 m9 c9 w2.heap.size zs (Nat.lt_succ_self _) HF2.out.cel HF2.out.own rF rR HBY9.out HF2.out.cel.lt)
        have HBX2 := Lib.hid hHeld
        clear rR rF rI rA rP rm hb2 hzl k1
        refine held_one (i := 9) (fuel := 0) (by kernel_rfl) (by rw [List.getElem?_toArray]; rfl) (fun K hK => ?_)
        go_simp
        refine HCO.out.mono ?_
        rintro e w3 ⟨rfl, A', c', w9, ho9, hg9, hob9, rfl⟩
        have HFA : Hid (FInvP S w (w9.setCell ⟨w.heap.size, 0, none⟩ (.slice A' (m0 + m9) c')) ss n (j + 1) A' (m0 + m9) c' (ys ++ zs)) := Lib.hid (HF2.out.app HL.out hlt HX.out HSB.out HZL.out HZI.out HZA.out (by have h1 := HFV.out.cel.lt; omega) (fun g e => by have h1 := (HV.out.own.lt g e).2; have h2 := HBW.out.size; omega) HE9.out ho9 hg9 hob9)
        refine hK.out _ _ ?_ (fun hHeld => ?_)
        · exact ⟨HFA.out.blw, (HBX2.out.2.grown hg9 (fun e => by have h1 := (HV.out.own.lt wr.heap.size e.symm).2; omega)).far (show wr.heap.size ≠ w.heap.size by have := HV.out.cel.lt; omega) _⟩
        clear hK K
        try simp only [Act.put, List.setIfInBounds_toArray, List.set_cons_zero, List.set_cons_succ]
        clear ho9 hg9 hob9
        refine wpAnyH_done (by kernel_rfl) ?_ _
        clear hHeld
        go_wp2_with fail
        go_roundw
        case rel => exact ⟨j + 1, _, _, _, _, by omega, by go_num, HFA⟩
        case measure => simp [intOf]; omega
      exact AllReadyH.nil
    · obtain rfl : j = n := by omega
      have k0 := HV.out.cel.cell 0
      simp at k0
      have HYV : Hid (ys.map plS = foldGo [] (ss.map plS)) := Lib.hid (by
        have := HV.out.val
        rw [List.drop_of_length_le (by rw [HL.out]; exact Nat.le_refl _), List.map_nil, foldGo_nil] at this
        exact this)
      go_wp2_with fail
      go_ret
      have hm := HV.out.len
      exact ⟨_, _, _, ys, rfl, rowFS_of_own HV.out.own (by have := HLE.out; omega), (fresh_of_own HV.out.own).down (Nat.le_succ _), HV.out.ins, fun y hy => (HV.out.ats y hy).mono fun b hb => hb.1.imp id (fun h => by omega), HYV.out, by have := HLE.out; omega, HV.out.blw⟩

theorem fblock_all : ∀ (s : SL), FoldBAt 12 s.body ∧ FoldBAt 12 s.els := by
  refine SL.ind fun s h1 h2 => ⟨fblock_of _ fun x hx => h1 x hx, fblock_of _ fun x hx => h2 x hx⟩

theorem fblock18_any : ∀ l : List SL, FoldBAt 12 l := fun l => fblock_of l fun x _ => fblock_all x

end

section
open Go.RowKit
set_option linter.unusedVariables false

/-- the number from a to b that is nearest -/
def nearL (n a b : Int) : Int := min (max n a) b

/-- the fields that an expression has if it uses those of its kind alone -/
def EL.form (e : EL) : FV :=
  if e.kind = 1 ∨ e.kind = 14 ∨ e.kind = 15 ∨ e.kind = 19 then ⟨e.kind, 0, e.num, [], 0, 0, 0⟩
  else if e.kind = 2 ∨ e.kind = 3 then ⟨e.kind, 0, 0, e.name, 0, 0, 0⟩
  else if e.kind = 4 ∨ e.kind = 5 ∨ e.kind = 11 ∨ e.kind = 13 then ⟨e.kind, 0, 0, [], 1, 0, 0⟩
  else if e.kind = 6 then ⟨e.kind, nearL e.op 1 14, 0, [], 2, 0, 0⟩
  else if e.kind = 7 ∨ e.kind = 8 then ⟨e.kind, 0, 0, e.name, 1, 0, 0⟩
  else if e.kind = 16 ∨ e.kind = 17 then ⟨e.kind, 0, e.num, [], 1, 0, 0⟩
  else if e.kind = 9 then ⟨e.kind, 0, 0, e.name, nearL e.n 0 8, 0, 0⟩
  else if e.kind = 18 then ⟨e.kind, 0, e.num, [], e.n, 0, 0⟩
  else if e.kind = 10 then ⟨e.kind, nearL e.op 1 3, 0, [], 1, 0, 0⟩
  else if e.kind = 12 then ⟨e.kind, nearL e.op 1 6, 0, [], 0, 0, 0⟩
  else ⟨e.kind, 0, 0, [], 0, 0, 0⟩

/-- the fields that a statement has if it uses those of its kind alone; its name: lm, ls -/
def SL.form (e : SL) (lm : Int) (ls : List UInt8) : FV :=
  if e.kind = 1 then ⟨e.kind, 0, 0, [], nearL e.n 1 8, 0, 0⟩
  else if e.kind = 2 ∨ e.kind = 3 ∨ e.kind = 5 ∨ e.kind = 6 ∨ e.kind = 17 ∨ e.kind = 23 then ⟨e.kind, 0, lm, ls, 1, 0, 0⟩
  else if e.kind = 4 then ⟨e.kind, 0, lm, ls, 2, 0, 0⟩
  else if e.kind = 7 then ⟨e.kind, 0, 0, [], 2, 0, 0⟩
  else if e.kind = 8 ∨ e.kind = 12 ∨ e.kind = 16 ∨ e.kind = 20 ∨ e.kind = 22 ∨ e.kind = 19 then ⟨e.kind, 0, 0, [], 1, 0, 0⟩
  else if e.kind = 9 then ⟨e.kind, 0, 0, [], 1, e.n1, e.n2⟩
  else if e.kind = 10 then ⟨e.kind, 0, 0, [], 1, e.n1, 0⟩
  else if e.kind = 11 then ⟨e.kind, 0, lm, ls, 1, e.n1, 0⟩
  else if e.kind = 18 then ⟨e.kind, 0, lm, ls, 0, 0, 0⟩
  else ⟨e.kind, 0, 0, [], 0, 0, 0⟩

end

section
open Go.RowKit
set_option linter.unusedVariables false

/-- a language as the program holds it: the kinds of texts and of calls, what tells the name of a statement, what tells whether an expression, a statement may be -/
structure LG where
  tx : Int
  cl : Int
  kN : FuncId
  kE : FuncId
  kS : FuncId
  F : Array Value
def LG.cells (G : LG) : Array Value := #[.int .i64 G.tx, .int .i64 G.cl, .func (.func G.kN) #[] #[], .func (.func G.kE) G.F #[], .func (.func G.kS) G.F #[]]
def LG.val (G : LG) : Value := .agg G.cells
theorem lg_size : (Try.prog.info? 71).map (·.size) = some 5 := by kernel_rfl

/-- the closures of argsCheck: where what they captured lies -/
structure Ck (w : World) (G : LG) (dp : Int) (said : Bool) (bc bg bs bd : Nat) : Prop where
  g : Blk w bg 71 G.cells
  s : Blk w bs 4 #[.bool said]
  d : Blk w bd 3 #[.int .i64 dp]
  c : Blk w bc 59 #[.func (.func 84) #[] #[.pointer (some ⟨bg, 0, none⟩), .pointer (some ⟨bs, 0, none⟩), .pointer (some ⟨bd, 0, none⟩)]]
theorem Ck.below {w w' : World} {G : LG} {dp : Int} {said : Bool} {bc bg bs bd : Nat} (h : Ck w G dp said bc bg bs bd) (hb : Below w.heap.size w w') : Ck w' G dp said bc bg bs bd :=
  ⟨h.g.below hb h.g.lt, h.s.below hb h.s.lt, h.d.below hb h.d.lt, h.c.below hb h.c.lt⟩

end

end Go.Proofs.Ytiioffjjlcfhgaa
