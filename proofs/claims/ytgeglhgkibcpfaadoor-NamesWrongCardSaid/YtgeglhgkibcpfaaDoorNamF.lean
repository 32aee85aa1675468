/- Contract of the statements' ahead, where the fault's number is one of its part. -/
import Derived.Test.YtgeglhgkibcpfaaDoorNamE
import Derived.Test.YtgeglhgkibcpfaaDoorRegion
import Derived.RegionTactic
namespace Go.Proofs.YtgeglhgkibcpfaaDoor
open Go.RowKit
set_option linter.unusedVariables false

theorem RdS.front15 {w : World} {B : Nat} {A : Option Addr} {n : Nat} {ls : List (List UInt8)} (h : RdS w B A n ls) {m : Nat} (hk : m ≤ n) : RdS w B A m (ls.take m) := by
  have hl := h.1
  refine ⟨by rw [List.length_take]; omega, fun h0 => ?_⟩
  obtain ⟨ad, e, hb, hc⟩ := h.2 (by omega)
  refine ⟨ad, e, hb, fun j hj => ?_⟩
  rw [List.length_take] at hj
  rw [List.getElem?_take_of_lt (by omega)]
  exact hc j (by omega)

theorem Blk_drew {w : World} {g : Nat} {t : TypeId} {cs : Array Value} (h : Blk w g t cs) : Blk w.drew g t cs := h

/-- what ahead leaves -/
def OutA (B : Nat) (w : World) (r : List (List UInt8) × Dl) (e : Ending) (w' : World) : Prop :=
  ∃ (A : Option Addr) (n c : Nat) (Y : Dcl), e = .returned (.tuple #[.slice A n c, dclV Y]) ∧ RdS w' B A n r.1 ∧ Y.Rd w' B r.2 ∧ (Y.n0 + Y.n1 + Y.n2 + Y.n3 + Y.n4 + Y.n5 + Y.n6 ≤ 50000) ∧ Below w.heap.size w w'

set_option maxRecDepth 100000 in
set_option maxHeartbeats 12800000 in
theorem ahead_2 (X : Dcl) (w : World) (B : Nat) (hB : B ≤ w.heap.size) (d : Dl) (h : X.Rd w B d) (hcap : X.n0 ≤ X.c0) (hn : cntD d ≤ 50000) (er : Int) (s : ByteArray) (m : Nat) (hm : m < X.n0) :
    Calls Tryd.prog 23 #[dclV X, .agg #[.int .i64 er, .int .i64 2, .int .i64 (m : Int), .string s]] w (OutA B w (aheadD d 2 m)) := by
  have hcnt := h.cnt
  obtain ⟨A0, n0, c0, A1, n1, c1, A2, n2, c2, A3, n3, c3, A4, n4, c4, A5, n5, c5, A6, n6, c6⟩ := X
  simp only at hcnt hcap hm
  have HCN : Hid (n0 + n1 + n2 + n3 + n4 + n5 + n6 ≤ 50000) := Lib.hid (by omega)
  have hs0 : n0 ≤ 50000 := by omega
  have H := Lib.hid h
  have HM : Hid (m ≤ n0) := Lib.hid (by omega)
  have hkc : m ≤ c0 := by omega
  have hmi : (m : Int) < (n0 : Int) := by omega
  have hmn : ¬ (n0 : Int) < (m : Int) := by omega
  have hml : (m : Int) ≤ (n0 : Int) := by omega
  have hnn : ¬ n0 < m := by omega
  have hm0 : (0 : Int) ≤ (m : Int) ∧ (m : Int) ≤ (c0 : Int) := by omega
  have hmin : min (m : Int) (n0 : Int) = (m : Int) := by omega
  clear h hcnt hn
  show Calls Tryd.prog _ #[.agg #[.slice A0 n0 c0, .slice A1 n1 c1, .slice A2 n2 c2, .slice A3 n3 c3, .slice A4 n4 c4, .slice A5 n5 c5, .slice A6 n6 c6], .agg #[.int .i64 er, .int .i64 2, .int .i64 (m : Int), .string s]] w _
  obtain ⟨W, hW⟩ : ∃ W, W = ((w.alloc (.cells #[.slice A0 n0 c0, .slice A1 n1 c1, .slice A2 n2 c2, .slice A3 n3 c3, .slice A4 n4 c4, .slice A5 n5 c5, .slice A6 n6 c6] 24)).alloc (.cells #[.int .i64 er, .int .i64 2, .int .i64 (m : Int), .string s] 30)).alloc (.cells #[.slice none 0 0, .slice none 0 0, .slice none 0 0, .slice none 0 0, .slice none 0 0, .slice none 0 0, .slice none 0 0] 24) := ⟨_, rfl⟩
  have HBW : Hid (Below w.heap.size w W) := Lib.hid (by rw [hW]; exact (((Below.refl _ _).alloc (Nat.le_refl _) _).alloc (by simp) _).alloc (by simp; omega) _)
  have HKW : Hid (Blk W w.heap.size 24 #[.slice A0 n0 c0, .slice A1 n1 c1, .slice A2 n2 c2, .slice A3 n3 c3, .slice A4 n4 c4, .slice A5 n5 c5, .slice A6 n6 c6]) := Lib.hid (by rw [hW]; exact ((Blk.new _ _ _).alloc _).alloc _)
  have HFW : Hid (Blk W (w.heap.size + 1) 30 #[.int .i64 er, .int .i64 2, .int .i64 (m : Int), .string s]) := Lib.hid (by rw [hW]; exact (Blk.new_at _ _ _ _ (by simp)).alloc _)
  have HRW : Hid (Blk W (w.heap.size + 1 + 1) 24 #[.slice none 0 0, .slice none 0 0, .slice none 0 0, .slice none 0 0, .slice none 0 0, .slice none 0 0, .slice none 0 0]) := Lib.hid (by rw [hW]; exact Blk.new_at _ _ _ _ (by simp))
  have f1 : W.cell? ⟨w.heap.size + 1, 1, none⟩ = some (.int .i64 2) := HFW.out.cell 1
  have f2 : W.cell? ⟨w.heap.size + 1, 2, none⟩ = some (.int .i64 (m : Int)) := HFW.out.cell 2
  clear HFW
  go_enter Tryd.func23, Tryd.ntmps23
  go_wp2_with fail
  rw [← hW]
  clear hW
  go_wp2_with fail
  have r0 : W.frozen? ⟨w.heap.size + 1 + 1, 0, none⟩ = false := HRW.out.frozen 0
  have g0 : W.cell? ⟨w.heap.size + 1 + 1, 0, none⟩ = some (.slice none 0 0) := HRW.out.cell 0
  have r1 : W.frozen? ⟨w.heap.size + 1 + 1, 1, none⟩ = false := HRW.out.frozen 1
  have g1 : W.cell? ⟨w.heap.size + 1 + 1, 1, none⟩ = some (.slice none 0 0) := HRW.out.cell 1
  have r2 : W.frozen? ⟨w.heap.size + 1 + 1, 2, none⟩ = false := HRW.out.frozen 2
  have g2 : W.cell? ⟨w.heap.size + 1 + 1, 2, none⟩ = some (.slice none 0 0) := HRW.out.cell 2
  have r3 : W.frozen? ⟨w.heap.size + 1 + 1, 3, none⟩ = false := HRW.out.frozen 3
  have g3 : W.cell? ⟨w.heap.size + 1 + 1, 3, none⟩ = some (.slice none 0 0) := HRW.out.cell 3
  have r4 : W.frozen? ⟨w.heap.size + 1 + 1, 4, none⟩ = false := HRW.out.frozen 4
  have g4 : W.cell? ⟨w.heap.size + 1 + 1, 4, none⟩ = some (.slice none 0 0) := HRW.out.cell 4
  have r5 : W.frozen? ⟨w.heap.size + 1 + 1, 5, none⟩ = false := HRW.out.frozen 5
  have g5 : W.cell? ⟨w.heap.size + 1 + 1, 5, none⟩ = some (.slice none 0 0) := HRW.out.cell 5
  have r6 : W.frozen? ⟨w.heap.size + 1 + 1, 6, none⟩ = false := HRW.out.frozen 6
  have g6 : W.cell? ⟨w.heap.size + 1 + 1, 6, none⟩ = some (.slice none 0 0) := HRW.out.cell 6
  refine wp_region_held_drew (S := fun w' => Below w.heap.size w w' ∧ Blk w' w.heap.size 24 #[.slice A0 n0 c0, .slice A1 n1 c1, .slice A2 n2 c2, .slice A3 n3 c3, .slice A4 n4 c4, .slice A5 n5 c5, .slice A6 n6 c6]) (by kernel_rfl) ⟨HBW.out.drew, HKW.out⟩ (fun hHeld => ?_)
  refine held_take (i := 0) (fuel := 12) (v := ?_) (by rw [List.getElem?_toArray]; rfl) (by kernel_rfl) (by kernel_rfl) (by kernel_rfl) hHeld ?_ ?_ ?_ ?_
  rotate_left
  · intro u hSw
    go_simp
    try with_reducible rfl
  · rfl
  · exact fun _ _ _ h => h
  try simp only [Act.put, List.setIfInBounds_toArray, List.set_cons_zero, List.set_cons_succ]
  refine held_take (i := 1) (fuel := 11) (v := ?_) (by rw [List.getElem?_toArray]; rfl) (by kernel_rfl) (by kernel_rfl) (by kernel_rfl) hHeld ?_ ?_ ?_ ?_
  rotate_left
  · intro u hSw
    have y0 := hSw.2.cell 0
    have y1 := hSw.2.cell 1
    have y2 := hSw.2.cell 2
    have y3 := hSw.2.cell 3
    have y4 := hSw.2.cell 4
    have y5 := hSw.2.cell 5
    have y6 := hSw.2.cell 6
    go_simp
    try with_reducible rfl
  · rfl
  · exact fun _ _ _ h => h
  try simp only [Act.put, List.setIfInBounds_toArray, List.set_cons_zero, List.set_cons_succ]
  refine held_take (i := 2) (fuel := 10) (v := ?_) (by rw [List.getElem?_toArray]; rfl) (by kernel_rfl) (by kernel_rfl) (by kernel_rfl) hHeld ?_ ?_ ?_ ?_
  rotate_left
  · intro u hSw
    go_simp
    try with_reducible rfl
  · rfl
  · exact fun _ _ _ h => h
  try simp only [Act.put, List.setIfInBounds_toArray, List.set_cons_zero, List.set_cons_succ]
  refine held_take (i := 3) (fuel := 9) (v := ?_) (by rw [List.getElem?_toArray]; rfl) (by kernel_rfl) (by kernel_rfl) (by kernel_rfl) hHeld ?_ ?_ ?_ ?_
  rotate_left
  · intro u hSw
    have y0 := hSw.2.cell 0
    have y1 := hSw.2.cell 1
    have y2 := hSw.2.cell 2
    have y3 := hSw.2.cell 3
    have y4 := hSw.2.cell 4
    have y5 := hSw.2.cell 5
    have y6 := hSw.2.cell 6
    go_simp
    try with_reducible rfl
  · rfl
  · exact fun _ _ _ h => h
  try simp only [Act.put, List.setIfInBounds_toArray, List.set_cons_zero, List.set_cons_succ]
  refine held_take (i := 4) (fuel := 8) (v := ?_) (by rw [List.getElem?_toArray]; rfl) (by kernel_rfl) (by kernel_rfl) (by kernel_rfl) hHeld ?_ ?_ ?_ ?_
  rotate_left
  · intro u hSw
    go_simp
    try with_reducible rfl
  · rfl
  · exact fun _ _ _ h => h
  try simp only [Act.put, List.setIfInBounds_toArray, List.set_cons_zero, List.set_cons_succ]
  refine held_take (i := 5) (fuel := 7) (v := ?_) (by rw [List.getElem?_toArray]; rfl) (by kernel_rfl) (by kernel_rfl) (by kernel_rfl) hHeld ?_ ?_ ?_ ?_
  rotate_left
  · intro u hSw
    go_simp
    try with_reducible rfl
  · rfl
  · exact fun _ _ _ h => h
  try simp only [Act.put, List.setIfInBounds_toArray, List.set_cons_zero, List.set_cons_succ]
  refine held_take (i := 6) (fuel := 6) (v := ?_) (by rw [List.getElem?_toArray]; rfl) (by kernel_rfl) (by kernel_rfl) (by kernel_rfl) hHeld ?_ ?_ ?_ ?_
  rotate_left
  · intro u hSw
    have y0 := hSw.2.cell 0
    have y1 := hSw.2.cell 1
    have y2 := hSw.2.cell 2
    have y3 := hSw.2.cell 3
    have y4 := hSw.2.cell 4
    have y5 := hSw.2.cell 5
    have y6 := hSw.2.cell 6
    go_simp
    try with_reducible rfl
  · rfl
  · exact fun _ _ _ h => h
  try simp only [Act.put, List.setIfInBounds_toArray, List.set_cons_zero, List.set_cons_succ]
  refine held_take (i := 7) (fuel := 5) (v := ?_) (by rw [List.getElem?_toArray]; rfl) (by kernel_rfl) (by kernel_rfl) (by kernel_rfl) hHeld ?_ ?_ ?_ ?_
  rotate_left
  · intro u hSw
    go_simp
    try with_reducible rfl
  · rfl
  · exact fun _ _ _ h => h
  try simp only [Act.put, List.setIfInBounds_toArray, List.set_cons_zero, List.set_cons_succ]
  refine held_take (i := 8) (fuel := 4) (v := ?_) (by rw [List.getElem?_toArray]; rfl) (by kernel_rfl) (by kernel_rfl) (by kernel_rfl) hHeld ?_ ?_ ?_ ?_
  rotate_left
  · intro u hSw
    go_simp
    try with_reducible rfl
  · rfl
  · exact fun _ _ _ h => h
  try simp only [Act.put, List.setIfInBounds_toArray, List.set_cons_zero, List.set_cons_succ]
  refine held_take (i := 9) (fuel := 3) (v := ?_) (by rw [List.getElem?_toArray]; rfl) (by kernel_rfl) (by kernel_rfl) (by kernel_rfl) hHeld ?_ ?_ ?_ ?_
  rotate_left
  · intro u hSw
    go_simp
    try with_reducible rfl
  · rfl
  · exact fun _ _ _ h => h
  try simp only [Act.put, List.setIfInBounds_toArray, List.set_cons_zero, List.set_cons_succ]
  refine held_take (i := 10) (fuel := 2) (v := ?_) (by rw [List.getElem?_toArray]; rfl) (by kernel_rfl) (by kernel_rfl) (by kernel_rfl) hHeld ?_ ?_ ?_ ?_
  rotate_left
  · intro u hSw
    go_simp
    try with_reducible rfl
  · rfl
  · exact fun _ _ _ h => h
  try simp only [Act.put, List.setIfInBounds_toArray, List.set_cons_zero, List.set_cons_succ]
  refine held_take (i := 11) (fuel := 1) (v := ?_) (by rw [List.getElem?_toArray]; rfl) (by kernel_rfl) (by kernel_rfl) (by kernel_rfl) hHeld ?_ ?_ ?_ ?_
  rotate_left
  · intro u hSw
    go_simp
    try with_reducible rfl
  · rfl
  · exact fun _ _ _ h => h
  try simp only [Act.put, List.setIfInBounds_toArray, List.set_cons_zero, List.set_cons_succ]
  refine held_one (i := 12) (fuel := 0) (by kernel_rfl) (by rw [List.getElem?_toArray]; rfl) (fun K hK => ?_)
  go_simp
  refine hK.out _ _ ?_ (fun hHeld => ?_)
  · exact ⟨((Below.setCell (p := ⟨w.heap.size + 1 + 1, 6, none⟩) (Below.setCell (p := ⟨w.heap.size + 1 + 1, 5, none⟩) (Below.setCell (p := ⟨w.heap.size + 1 + 1, 4, none⟩) (Below.setCell (p := ⟨w.heap.size + 1 + 1, 3, none⟩) (Below.setCell (p := ⟨w.heap.size + 1 + 1, 2, none⟩) (Below.setCell (p := ⟨w.heap.size + 1 + 1, 1, none⟩) (Below.setCell (p := ⟨w.heap.size + 1 + 1, 0, none⟩) HBW.out (show w.heap.size ≤ w.heap.size + 1 + 1 by omega) (.slice A0 m c0)) (show w.heap.size ≤ w.heap.size + 1 + 1 by omega) (.slice none 0 0)) (show w.heap.size ≤ w.heap.size + 1 + 1 by omega) (.slice none 0 0)) (show w.heap.size ≤ w.heap.size + 1 + 1 by omega) (.slice none 0 0)) (show w.heap.size ≤ w.heap.size + 1 + 1 by omega) (.slice none 0 0)) (show w.heap.size ≤ w.heap.size + 1 + 1 by omega) (.slice none 0 0)) (show w.heap.size ≤ w.heap.size + 1 + 1 by omega) (.slice none 0 0))).drew, Blk_drew (Blk.far (p := ⟨w.heap.size + 1 + 1, 6, none⟩) (Blk.far (p := ⟨w.heap.size + 1 + 1, 5, none⟩) (Blk.far (p := ⟨w.heap.size + 1 + 1, 4, none⟩) (Blk.far (p := ⟨w.heap.size + 1 + 1, 3, none⟩) (Blk.far (p := ⟨w.heap.size + 1 + 1, 2, none⟩) (Blk.far (p := ⟨w.heap.size + 1 + 1, 1, none⟩) (Blk.far (p := ⟨w.heap.size + 1 + 1, 0, none⟩) HKW.out (show w.heap.size ≠ w.heap.size + 1 + 1 by omega) (.slice A0 m c0)) (show w.heap.size ≠ w.heap.size + 1 + 1 by omega) (.slice none 0 0)) (show w.heap.size ≠ w.heap.size + 1 + 1 by omega) (.slice none 0 0)) (show w.heap.size ≠ w.heap.size + 1 + 1 by omega) (.slice none 0 0)) (show w.heap.size ≠ w.heap.size + 1 + 1 by omega) (.slice none 0 0)) (show w.heap.size ≠ w.heap.size + 1 + 1 by omega) (.slice none 0 0)) (show w.heap.size ≠ w.heap.size + 1 + 1 by omega) (.slice none 0 0))⟩
  clear hK K
  try simp only [Act.put, List.setIfInBounds_toArray, List.set_cons_zero, List.set_cons_succ]
  have HY : Hid (Blk (((((((W.setCell ⟨w.heap.size + 1 + 1, 0, none⟩ (.slice A0 m c0)).setCell ⟨w.heap.size + 1 + 1, 1, none⟩ (.slice none 0 0)).setCell ⟨w.heap.size + 1 + 1, 2, none⟩ (.slice none 0 0)).setCell ⟨w.heap.size + 1 + 1, 3, none⟩ (.slice none 0 0)).setCell ⟨w.heap.size + 1 + 1, 4, none⟩ (.slice none 0 0)).setCell ⟨w.heap.size + 1 + 1, 5, none⟩ (.slice none 0 0)).setCell ⟨w.heap.size + 1 + 1, 6, none⟩ (.slice none 0 0)).drew (w.heap.size + 1 + 1) 24 #[.slice A0 m c0, .slice none 0 0, .slice none 0 0, .slice none 0 0, .slice none 0 0, .slice none 0 0, .slice none 0 0]) := Lib.hid (Blk_drew (((((((HRW.out.set_ 0 (.slice A0 m c0)).set_ 1 (.slice none 0 0)).set_ 2 (.slice none 0 0)).set_ 3 (.slice none 0 0)).set_ 4 (.slice none 0 0)).set_ 5 (.slice none 0 0)).set_ 6 (.slice none 0 0)))
  refine wpAnyH_done (by kernel_rfl) ?_ _
  have HBE := Lib.hid hHeld.1
  clear hHeld
  (try simp only [Exit.inBlock, Exit.then, Exit.inSwitch]); go_wp2_with fail
  (try simp only [Exit.inBlock, Exit.then]); refine bodyPost_ret (results_tc rfl _ _ _ _ _ _ _ rfl HY.out Tryd.underlying24 rfl (by kernel_rfl)) rfl ?_
  have hr := H.out.below (HBE.out.mono hB)
  refine ⟨A0, n0, c0, ⟨A0, m, c0, none, 0, 0, none, 0, 0, none, 0, 0, none, 0, 0, none, 0, 0, none, 0, 0⟩, rfl, ?_, ?_, ?_, HBE.out⟩
  · exact hr.fl
  · exact ⟨hr.fl.front15 HM.out, RdS.nil _ _ _, RdS.nil _ _ _, RdS.nil _ _ _, RdS.nil _ _ _, RdS.nil _ _ _, RdS.nil _ _ _⟩
  · have hcn := HCN.out
    have hm := HM.out
    show m + 0 + 0 + 0 + 0 + 0 + 0 ≤ 50000
    omega

set_option maxRecDepth 100000 in
set_option maxHeartbeats 12800000 in
theorem ahead_3 (X : Dcl) (w : World) (B : Nat) (hB : B ≤ w.heap.size) (d : Dl) (h : X.Rd w B d) (hcap : X.n1 ≤ X.c1) (hn : cntD d ≤ 50000) (er : Int) (s : ByteArray) (m : Nat) (hm : m < X.n1) :
    Calls Tryd.prog 23 #[dclV X, .agg #[.int .i64 er, .int .i64 3, .int .i64 (m : Int), .string s]] w (OutA B w (aheadD d 3 m)) := by
  have hcnt := h.cnt
  obtain ⟨A0, n0, c0, A1, n1, c1, A2, n2, c2, A3, n3, c3, A4, n4, c4, A5, n5, c5, A6, n6, c6⟩ := X
  simp only at hcnt hcap hm
  have HCN : Hid (n0 + n1 + n2 + n3 + n4 + n5 + n6 ≤ 50000) := Lib.hid (by omega)
  have hs1 : n1 ≤ 50000 := by omega
  have H := Lib.hid h
  have HM : Hid (m ≤ n1) := Lib.hid (by omega)
  have hkc : m ≤ c1 := by omega
  have hmi : (m : Int) < (n1 : Int) := by omega
  have hmn : ¬ (n1 : Int) < (m : Int) := by omega
  have hml : (m : Int) ≤ (n1 : Int) := by omega
  have hnn : ¬ n1 < m := by omega
  have hm0 : (0 : Int) ≤ (m : Int) ∧ (m : Int) ≤ (c1 : Int) := by omega
  have hmin : min (m : Int) (n1 : Int) = (m : Int) := by omega
  clear h hcnt hn
  show Calls Tryd.prog _ #[.agg #[.slice A0 n0 c0, .slice A1 n1 c1, .slice A2 n2 c2, .slice A3 n3 c3, .slice A4 n4 c4, .slice A5 n5 c5, .slice A6 n6 c6], .agg #[.int .i64 er, .int .i64 3, .int .i64 (m : Int), .string s]] w _
  obtain ⟨W, hW⟩ : ∃ W, W = ((w.alloc (.cells #[.slice A0 n0 c0, .slice A1 n1 c1, .slice A2 n2 c2, .slice A3 n3 c3, .slice A4 n4 c4, .slice A5 n5 c5, .slice A6 n6 c6] 24)).alloc (.cells #[.int .i64 er, .int .i64 3, .int .i64 (m : Int), .string s] 30)).alloc (.cells #[.slice none 0 0, .slice none 0 0, .slice none 0 0, .slice none 0 0, .slice none 0 0, .slice none 0 0, .slice none 0 0] 24) := ⟨_, rfl⟩
  have HBW : Hid (Below w.heap.size w W) := Lib.hid (by rw [hW]; exact (((Below.refl _ _).alloc (Nat.le_refl _) _).alloc (by simp) _).alloc (by simp; omega) _)
  have HKW : Hid (Blk W w.heap.size 24 #[.slice A0 n0 c0, .slice A1 n1 c1, .slice A2 n2 c2, .slice A3 n3 c3, .slice A4 n4 c4, .slice A5 n5 c5, .slice A6 n6 c6]) := Lib.hid (by rw [hW]; exact ((Blk.new _ _ _).alloc _).alloc _)
  have HFW : Hid (Blk W (w.heap.size + 1) 30 #[.int .i64 er, .int .i64 3, .int .i64 (m : Int), .string s]) := Lib.hid (by rw [hW]; exact (Blk.new_at _ _ _ _ (by simp)).alloc _)
  have HRW : Hid (Blk W (w.heap.size + 1 + 1) 24 #[.slice none 0 0, .slice none 0 0, .slice none 0 0, .slice none 0 0, .slice none 0 0, .slice none 0 0, .slice none 0 0]) := Lib.hid (by rw [hW]; exact Blk.new_at _ _ _ _ (by simp))
  have f1 : W.cell? ⟨w.heap.size + 1, 1, none⟩ = some (.int .i64 3) := HFW.out.cell 1
  have f2 : W.cell? ⟨w.heap.size + 1, 2, none⟩ = some (.int .i64 (m : Int)) := HFW.out.cell 2
  clear HFW
  go_enter Tryd.func23, Tryd.ntmps23
  go_wp2_with fail
  rw [← hW]
  clear hW
  go_wp2_with fail
  have r0 : W.frozen? ⟨w.heap.size + 1 + 1, 0, none⟩ = false := HRW.out.frozen 0
  have g0 : W.cell? ⟨w.heap.size + 1 + 1, 0, none⟩ = some (.slice none 0 0) := HRW.out.cell 0
  have r1 : W.frozen? ⟨w.heap.size + 1 + 1, 1, none⟩ = false := HRW.out.frozen 1
  have g1 : W.cell? ⟨w.heap.size + 1 + 1, 1, none⟩ = some (.slice none 0 0) := HRW.out.cell 1
  have r2 : W.frozen? ⟨w.heap.size + 1 + 1, 2, none⟩ = false := HRW.out.frozen 2
  have g2 : W.cell? ⟨w.heap.size + 1 + 1, 2, none⟩ = some (.slice none 0 0) := HRW.out.cell 2
  have r3 : W.frozen? ⟨w.heap.size + 1 + 1, 3, none⟩ = false := HRW.out.frozen 3
  have g3 : W.cell? ⟨w.heap.size + 1 + 1, 3, none⟩ = some (.slice none 0 0) := HRW.out.cell 3
  have r4 : W.frozen? ⟨w.heap.size + 1 + 1, 4, none⟩ = false := HRW.out.frozen 4
  have g4 : W.cell? ⟨w.heap.size + 1 + 1, 4, none⟩ = some (.slice none 0 0) := HRW.out.cell 4
  have r5 : W.frozen? ⟨w.heap.size + 1 + 1, 5, none⟩ = false := HRW.out.frozen 5
  have g5 : W.cell? ⟨w.heap.size + 1 + 1, 5, none⟩ = some (.slice none 0 0) := HRW.out.cell 5
  have r6 : W.frozen? ⟨w.heap.size + 1 + 1, 6, none⟩ = false := HRW.out.frozen 6
  have g6 : W.cell? ⟨w.heap.size + 1 + 1, 6, none⟩ = some (.slice none 0 0) := HRW.out.cell 6
  refine wp_region_held_drew (S := fun w' => Below w.heap.size w w' ∧ Blk w' w.heap.size 24 #[.slice A0 n0 c0, .slice A1 n1 c1, .slice A2 n2 c2, .slice A3 n3 c3, .slice A4 n4 c4, .slice A5 n5 c5, .slice A6 n6 c6]) (by kernel_rfl) ⟨HBW.out.drew, HKW.out⟩ (fun hHeld => ?_)
  refine held_take (i := 0) (fuel := 14) (v := ?_) (by rw [List.getElem?_toArray]; rfl) (by kernel_rfl) (by kernel_rfl) (by kernel_rfl) hHeld ?_ ?_ ?_ ?_
  rotate_left
  · intro u hSw
    go_simp
    try with_reducible rfl
  · rfl
  · exact fun _ _ _ h => h
  try simp only [Act.put, List.setIfInBounds_toArray, List.set_cons_zero, List.set_cons_succ]
  refine held_take (i := 1) (fuel := 13) (v := ?_) (by rw [List.getElem?_toArray]; rfl) (by kernel_rfl) (by kernel_rfl) (by kernel_rfl) hHeld ?_ ?_ ?_ ?_
  rotate_left
  · intro u hSw
    have y0 := hSw.2.cell 0
    have y1 := hSw.2.cell 1
    have y2 := hSw.2.cell 2
    have y3 := hSw.2.cell 3
    have y4 := hSw.2.cell 4
    have y5 := hSw.2.cell 5
    have y6 := hSw.2.cell 6
    go_simp
    try with_reducible rfl
  · rfl
  · exact fun _ _ _ h => h
  try simp only [Act.put, List.setIfInBounds_toArray, List.set_cons_zero, List.set_cons_succ]
  refine held_take (i := 2) (fuel := 12) (v := ?_) (by rw [List.getElem?_toArray]; rfl) (by kernel_rfl) (by kernel_rfl) (by kernel_rfl) hHeld ?_ ?_ ?_ ?_
  rotate_left
  · intro u hSw
    go_simp
    try with_reducible rfl
  · rfl
  · exact fun _ _ _ h => h
  try simp only [Act.put, List.setIfInBounds_toArray, List.set_cons_zero, List.set_cons_succ]
  refine held_take (i := 3) (fuel := 11) (v := ?_) (by rw [List.getElem?_toArray]; rfl) (by kernel_rfl) (by kernel_rfl) (by kernel_rfl) hHeld ?_ ?_ ?_ ?_
  rotate_left
  · intro u hSw
    have y0 := hSw.2.cell 0
    have y1 := hSw.2.cell 1
    have y2 := hSw.2.cell 2
    have y3 := hSw.2.cell 3
    have y4 := hSw.2.cell 4
    have y5 := hSw.2.cell 5
    have y6 := hSw.2.cell 6
    go_simp
    try with_reducible rfl
  · rfl
  · exact fun _ _ _ h => h
  try simp only [Act.put, List.setIfInBounds_toArray, List.set_cons_zero, List.set_cons_succ]
  refine held_take (i := 4) (fuel := 10) (v := ?_) (by rw [List.getElem?_toArray]; rfl) (by kernel_rfl) (by kernel_rfl) (by kernel_rfl) hHeld ?_ ?_ ?_ ?_
  rotate_left
  · intro u hSw
    go_simp
    try with_reducible rfl
  · rfl
  · exact fun _ _ _ h => h
  try simp only [Act.put, List.setIfInBounds_toArray, List.set_cons_zero, List.set_cons_succ]
  refine held_take (i := 5) (fuel := 9) (v := ?_) (by rw [List.getElem?_toArray]; rfl) (by kernel_rfl) (by kernel_rfl) (by kernel_rfl) hHeld ?_ ?_ ?_ ?_
  rotate_left
  · intro u hSw
    have y0 := hSw.2.cell 0
    have y1 := hSw.2.cell 1
    have y2 := hSw.2.cell 2
    have y3 := hSw.2.cell 3
    have y4 := hSw.2.cell 4
    have y5 := hSw.2.cell 5
    have y6 := hSw.2.cell 6
    go_simp
    try with_reducible rfl
  · rfl
  · exact fun _ _ _ h => h
  try simp only [Act.put, List.setIfInBounds_toArray, List.set_cons_zero, List.set_cons_succ]
  refine held_take (i := 6) (fuel := 8) (v := ?_) (by rw [List.getElem?_toArray]; rfl) (by kernel_rfl) (by kernel_rfl) (by kernel_rfl) hHeld ?_ ?_ ?_ ?_
  rotate_left
  · intro u hSw
    go_simp
    try with_reducible rfl
  · rfl
  · exact fun _ _ _ h => h
  try simp only [Act.put, List.setIfInBounds_toArray, List.set_cons_zero, List.set_cons_succ]
  refine held_take (i := 7) (fuel := 7) (v := ?_) (by rw [List.getElem?_toArray]; rfl) (by kernel_rfl) (by kernel_rfl) (by kernel_rfl) hHeld ?_ ?_ ?_ ?_
  rotate_left
  · intro u hSw
    go_simp
    try with_reducible rfl
  · rfl
  · exact fun _ _ _ h => h
  try simp only [Act.put, List.setIfInBounds_toArray, List.set_cons_zero, List.set_cons_succ]
  refine held_take (i := 8) (fuel := 6) (v := ?_) (by rw [List.getElem?_toArray]; rfl) (by kernel_rfl) (by kernel_rfl) (by kernel_rfl) hHeld ?_ ?_ ?_ ?_
  rotate_left
  · intro u hSw
    have y0 := hSw.2.cell 0
    have y1 := hSw.2.cell 1
    have y2 := hSw.2.cell 2
    have y3 := hSw.2.cell 3
    have y4 := hSw.2.cell 4
    have y5 := hSw.2.cell 5
    have y6 := hSw.2.cell 6
    go_simp
    try with_reducible rfl
  · rfl
  · exact fun _ _ _ h => h
  try simp only [Act.put, List.setIfInBounds_toArray, List.set_cons_zero, List.set_cons_succ]
  refine held_take (i := 9) (fuel := 5) (v := ?_) (by rw [List.getElem?_toArray]; rfl) (by kernel_rfl) (by kernel_rfl) (by kernel_rfl) hHeld ?_ ?_ ?_ ?_
  rotate_left
  · intro u hSw
    go_simp
    try with_reducible rfl
  · rfl
  · exact fun _ _ _ h => h
  try simp only [Act.put, List.setIfInBounds_toArray, List.set_cons_zero, List.set_cons_succ]
  refine held_take (i := 10) (fuel := 4) (v := ?_) (by rw [List.getElem?_toArray]; rfl) (by kernel_rfl) (by kernel_rfl) (by kernel_rfl) hHeld ?_ ?_ ?_ ?_
  rotate_left
  · intro u hSw
    go_simp
    try with_reducible rfl
  · rfl
  · exact fun _ _ _ h => h
  try simp only [Act.put, List.setIfInBounds_toArray, List.set_cons_zero, List.set_cons_succ]
  refine held_take (i := 11) (fuel := 3) (v := ?_) (by rw [List.getElem?_toArray]; rfl) (by kernel_rfl) (by kernel_rfl) (by kernel_rfl) hHeld ?_ ?_ ?_ ?_
  rotate_left
  · intro u hSw
    go_simp
    try with_reducible rfl
  · rfl
  · exact fun _ _ _ h => h
  try simp only [Act.put, List.setIfInBounds_toArray, List.set_cons_zero, List.set_cons_succ]
  refine held_take (i := 12) (fuel := 2) (v := ?_) (by rw [List.getElem?_toArray]; rfl) (by kernel_rfl) (by kernel_rfl) (by kernel_rfl) hHeld ?_ ?_ ?_ ?_
  rotate_left
  · intro u hSw
    go_simp
    try with_reducible rfl
  · rfl
  · exact fun _ _ _ h => h
  try simp only [Act.put, List.setIfInBounds_toArray, List.set_cons_zero, List.set_cons_succ]
  refine held_take (i := 13) (fuel := 1) (v := ?_) (by rw [List.getElem?_toArray]; rfl) (by kernel_rfl) (by kernel_rfl) (by kernel_rfl) hHeld ?_ ?_ ?_ ?_
  rotate_left
  · intro u hSw
    go_simp
    try with_reducible rfl
  · rfl
  · exact fun _ _ _ h => h
  try simp only [Act.put, List.setIfInBounds_toArray, List.set_cons_zero, List.set_cons_succ]
  refine held_one (i := 14) (fuel := 0) (by kernel_rfl) (by rw [List.getElem?_toArray]; rfl) (fun K hK => ?_)
  go_simp
  refine hK.out _ _ ?_ (fun hHeld => ?_)
  · exact ⟨((Below.setCell (p := ⟨w.heap.size + 1 + 1, 6, none⟩) (Below.setCell (p := ⟨w.heap.size + 1 + 1, 5, none⟩) (Below.setCell (p := ⟨w.heap.size + 1 + 1, 4, none⟩) (Below.setCell (p := ⟨w.heap.size + 1 + 1, 3, none⟩) (Below.setCell (p := ⟨w.heap.size + 1 + 1, 2, none⟩) (Below.setCell (p := ⟨w.heap.size + 1 + 1, 1, none⟩) (Below.setCell (p := ⟨w.heap.size + 1 + 1, 0, none⟩) HBW.out (show w.heap.size ≤ w.heap.size + 1 + 1 by omega) (.slice A0 n0 c0)) (show w.heap.size ≤ w.heap.size + 1 + 1 by omega) (.slice A1 m c1)) (show w.heap.size ≤ w.heap.size + 1 + 1 by omega) (.slice none 0 0)) (show w.heap.size ≤ w.heap.size + 1 + 1 by omega) (.slice none 0 0)) (show w.heap.size ≤ w.heap.size + 1 + 1 by omega) (.slice none 0 0)) (show w.heap.size ≤ w.heap.size + 1 + 1 by omega) (.slice none 0 0)) (show w.heap.size ≤ w.heap.size + 1 + 1 by omega) (.slice none 0 0))).drew, Blk_drew (Blk.far (p := ⟨w.heap.size + 1 + 1, 6, none⟩) (Blk.far (p := ⟨w.heap.size + 1 + 1, 5, none⟩) (Blk.far (p := ⟨w.heap.size + 1 + 1, 4, none⟩) (Blk.far (p := ⟨w.heap.size + 1 + 1, 3, none⟩) (Blk.far (p := ⟨w.heap.size + 1 + 1, 2, none⟩) (Blk.far (p := ⟨w.heap.size + 1 + 1, 1, none⟩) (Blk.far (p := ⟨w.heap.size + 1 + 1, 0, none⟩) HKW.out (show w.heap.size ≠ w.heap.size + 1 + 1 by omega) (.slice A0 n0 c0)) (show w.heap.size ≠ w.heap.size + 1 + 1 by omega) (.slice A1 m c1)) (show w.heap.size ≠ w.heap.size + 1 + 1 by omega) (.slice none 0 0)) (show w.heap.size ≠ w.heap.size + 1 + 1 by omega) (.slice none 0 0)) (show w.heap.size ≠ w.heap.size + 1 + 1 by omega) (.slice none 0 0)) (show w.heap.size ≠ w.heap.size + 1 + 1 by omega) (.slice none 0 0)) (show w.heap.size ≠ w.heap.size + 1 + 1 by omega) (.slice none 0 0))⟩
  clear hK K
  try simp only [Act.put, List.setIfInBounds_toArray, List.set_cons_zero, List.set_cons_succ]
  have HY : Hid (Blk (((((((W.setCell ⟨w.heap.size + 1 + 1, 0, none⟩ (.slice A0 n0 c0)).setCell ⟨w.heap.size + 1 + 1, 1, none⟩ (.slice A1 m c1)).setCell ⟨w.heap.size + 1 + 1, 2, none⟩ (.slice none 0 0)).setCell ⟨w.heap.size + 1 + 1, 3, none⟩ (.slice none 0 0)).setCell ⟨w.heap.size + 1 + 1, 4, none⟩ (.slice none 0 0)).setCell ⟨w.heap.size + 1 + 1, 5, none⟩ (.slice none 0 0)).setCell ⟨w.heap.size + 1 + 1, 6, none⟩ (.slice none 0 0)).drew (w.heap.size + 1 + 1) 24 #[.slice A0 n0 c0, .slice A1 m c1, .slice none 0 0, .slice none 0 0, .slice none 0 0, .slice none 0 0, .slice none 0 0]) := Lib.hid (Blk_drew (((((((HRW.out.set_ 0 (.slice A0 n0 c0)).set_ 1 (.slice A1 m c1)).set_ 2 (.slice none 0 0)).set_ 3 (.slice none 0 0)).set_ 4 (.slice none 0 0)).set_ 5 (.slice none 0 0)).set_ 6 (.slice none 0 0)))
  refine wpAnyH_done (by kernel_rfl) ?_ _
  have HBE := Lib.hid hHeld.1
  clear hHeld
  (try simp only [Exit.inBlock, Exit.then, Exit.inSwitch]); go_wp2_with fail
  (try simp only [Exit.inBlock, Exit.then]); refine bodyPost_ret (results_tc rfl _ _ _ _ _ _ _ rfl HY.out Tryd.underlying24 rfl (by kernel_rfl)) rfl ?_
  have hr := H.out.below (HBE.out.mono hB)
  refine ⟨A1, n1, c1, ⟨A0, n0, c0, A1, m, c1, none, 0, 0, none, 0, 0, none, 0, 0, none, 0, 0, none, 0, 0⟩, rfl, ?_, ?_, ?_, HBE.out⟩
  · exact hr.pr
  · exact ⟨hr.fl, hr.pr.front15 HM.out, RdS.nil _ _ _, RdS.nil _ _ _, RdS.nil _ _ _, RdS.nil _ _ _, RdS.nil _ _ _⟩
  · have hcn := HCN.out
    have hm := HM.out
    show n0 + m + 0 + 0 + 0 + 0 + 0 ≤ 50000
    omega

set_option maxRecDepth 100000 in
set_option maxHeartbeats 12800000 in
theorem ahead_4 (X : Dcl) (w : World) (B : Nat) (hB : B ≤ w.heap.size) (d : Dl) (h : X.Rd w B d) (hcap : X.n2 ≤ X.c2) (hn : cntD d ≤ 50000) (er : Int) (s : ByteArray) (m : Nat) (hm : m < X.n2) :
    Calls Tryd.prog 23 #[dclV X, .agg #[.int .i64 er, .int .i64 4, .int .i64 (m : Int), .string s]] w (OutA B w (aheadD d 4 m)) := by
  have hcnt := h.cnt
  obtain ⟨A0, n0, c0, A1, n1, c1, A2, n2, c2, A3, n3, c3, A4, n4, c4, A5, n5, c5, A6, n6, c6⟩ := X
  simp only at hcnt hcap hm
  have HCN : Hid (n0 + n1 + n2 + n3 + n4 + n5 + n6 ≤ 50000) := Lib.hid (by omega)
  have hs2 : n2 ≤ 50000 := by omega
  have H := Lib.hid h
  have HM : Hid (m ≤ n2) := Lib.hid (by omega)
  have hkc : m ≤ c2 := by omega
  have hmi : (m : Int) < (n2 : Int) := by omega
  have hmn : ¬ (n2 : Int) < (m : Int) := by omega
  have hml : (m : Int) ≤ (n2 : Int) := by omega
  have hnn : ¬ n2 < m := by omega
  have hm0 : (0 : Int) ≤ (m : Int) ∧ (m : Int) ≤ (c2 : Int) := by omega
  have hmin : min (m : Int) (n2 : Int) = (m : Int) := by omega
  clear h hcnt hn
  show Calls Tryd.prog _ #[.agg #[.slice A0 n0 c0, .slice A1 n1 c1, .slice A2 n2 c2, .slice A3 n3 c3, .slice A4 n4 c4, .slice A5 n5 c5, .slice A6 n6 c6], .agg #[.int .i64 er, .int .i64 4, .int .i64 (m : Int), .string s]] w _
  obtain ⟨W, hW⟩ : ∃ W, W = ((w.alloc (.cells #[.slice A0 n0 c0, .slice A1 n1 c1, .slice A2 n2 c2, .slice A3 n3 c3, .slice A4 n4 c4, .slice A5 n5 c5, .slice A6 n6 c6] 24)).alloc (.cells #[.int .i64 er, .int .i64 4, .int .i64 (m : Int), .string s] 30)).alloc (.cells #[.slice none 0 0, .slice none 0 0, .slice none 0 0, .slice none 0 0, .slice none 0 0, .slice none 0 0, .slice none 0 0] 24) := ⟨_, rfl⟩
  have HBW : Hid (Below w.heap.size w W) := Lib.hid (by rw [hW]; exact (((Below.refl _ _).alloc (Nat.le_refl _) _).alloc (by simp) _).alloc (by simp; omega) _)
  have HKW : Hid (Blk W w.heap.size 24 #[.slice A0 n0 c0, .slice A1 n1 c1, .slice A2 n2 c2, .slice A3 n3 c3, .slice A4 n4 c4, .slice A5 n5 c5, .slice A6 n6 c6]) := Lib.hid (by rw [hW]; exact ((Blk.new _ _ _).alloc _).alloc _)
  have HFW : Hid (Blk W (w.heap.size + 1) 30 #[.int .i64 er, .int .i64 4, .int .i64 (m : Int), .string s]) := Lib.hid (by rw [hW]; exact (Blk.new_at _ _ _ _ (by simp)).alloc _)
  have HRW : Hid (Blk W (w.heap.size + 1 + 1) 24 #[.slice none 0 0, .slice none 0 0, .slice none 0 0, .slice none 0 0, .slice none 0 0, .slice none 0 0, .slice none 0 0]) := Lib.hid (by rw [hW]; exact Blk.new_at _ _ _ _ (by simp))
  have f1 : W.cell? ⟨w.heap.size + 1, 1, none⟩ = some (.int .i64 4) := HFW.out.cell 1
  have f2 : W.cell? ⟨w.heap.size + 1, 2, none⟩ = some (.int .i64 (m : Int)) := HFW.out.cell 2
  clear HFW
  go_enter Tryd.func23, Tryd.ntmps23
  go_wp2_with fail
  rw [← hW]
  clear hW
  go_wp2_with fail
  have r0 : W.frozen? ⟨w.heap.size + 1 + 1, 0, none⟩ = false := HRW.out.frozen 0
  have g0 : W.cell? ⟨w.heap.size + 1 + 1, 0, none⟩ = some (.slice none 0 0) := HRW.out.cell 0
  have r1 : W.frozen? ⟨w.heap.size + 1 + 1, 1, none⟩ = false := HRW.out.frozen 1
  have g1 : W.cell? ⟨w.heap.size + 1 + 1, 1, none⟩ = some (.slice none 0 0) := HRW.out.cell 1
  have r2 : W.frozen? ⟨w.heap.size + 1 + 1, 2, none⟩ = false := HRW.out.frozen 2
  have g2 : W.cell? ⟨w.heap.size + 1 + 1, 2, none⟩ = some (.slice none 0 0) := HRW.out.cell 2
  have r3 : W.frozen? ⟨w.heap.size + 1 + 1, 3, none⟩ = false := HRW.out.frozen 3
  have g3 : W.cell? ⟨w.heap.size + 1 + 1, 3, none⟩ = some (.slice none 0 0) := HRW.out.cell 3
  have r4 : W.frozen? ⟨w.heap.size + 1 + 1, 4, none⟩ = false := HRW.out.frozen 4
  have g4 : W.cell? ⟨w.heap.size + 1 + 1, 4, none⟩ = some (.slice none 0 0) := HRW.out.cell 4
  have r5 : W.frozen? ⟨w.heap.size + 1 + 1, 5, none⟩ = false := HRW.out.frozen 5
  have g5 : W.cell? ⟨w.heap.size + 1 + 1, 5, none⟩ = some (.slice none 0 0) := HRW.out.cell 5
  have r6 : W.frozen? ⟨w.heap.size + 1 + 1, 6, none⟩ = false := HRW.out.frozen 6
  have g6 : W.cell? ⟨w.heap.size + 1 + 1, 6, none⟩ = some (.slice none 0 0) := HRW.out.cell 6
  refine wp_region_held_drew (S := fun w' => Below w.heap.size w w' ∧ Blk w' w.heap.size 24 #[.slice A0 n0 c0, .slice A1 n1 c1, .slice A2 n2 c2, .slice A3 n3 c3, .slice A4 n4 c4, .slice A5 n5 c5, .slice A6 n6 c6]) (by kernel_rfl) ⟨HBW.out.drew, HKW.out⟩ (fun hHeld => ?_)
  refine held_take (i := 0) (fuel := 16) (v := ?_) (by rw [List.getElem?_toArray]; rfl) (by kernel_rfl) (by kernel_rfl) (by kernel_rfl) hHeld ?_ ?_ ?_ ?_
  rotate_left
  · intro u hSw
    go_simp
    try with_reducible rfl
  · rfl
  · exact fun _ _ _ h => h
  try simp only [Act.put, List.setIfInBounds_toArray, List.set_cons_zero, List.set_cons_succ]
  refine held_take (i := 1) (fuel := 15) (v := ?_) (by rw [List.getElem?_toArray]; rfl) (by kernel_rfl) (by kernel_rfl) (by kernel_rfl) hHeld ?_ ?_ ?_ ?_
  rotate_left
  · intro u hSw
    have y0 := hSw.2.cell 0
    have y1 := hSw.2.cell 1
    have y2 := hSw.2.cell 2
    have y3 := hSw.2.cell 3
    have y4 := hSw.2.cell 4
    have y5 := hSw.2.cell 5
    have y6 := hSw.2.cell 6
    go_simp
    try with_reducible rfl
  · rfl
  · exact fun _ _ _ h => h
  try simp only [Act.put, List.setIfInBounds_toArray, List.set_cons_zero, List.set_cons_succ]
  refine held_take (i := 2) (fuel := 14) (v := ?_) (by rw [List.getElem?_toArray]; rfl) (by kernel_rfl) (by kernel_rfl) (by kernel_rfl) hHeld ?_ ?_ ?_ ?_
  rotate_left
  · intro u hSw
    go_simp
    try with_reducible rfl
  · rfl
  · exact fun _ _ _ h => h
  try simp only [Act.put, List.setIfInBounds_toArray, List.set_cons_zero, List.set_cons_succ]
  refine held_take (i := 3) (fuel := 13) (v := ?_) (by rw [List.getElem?_toArray]; rfl) (by kernel_rfl) (by kernel_rfl) (by kernel_rfl) hHeld ?_ ?_ ?_ ?_
  rotate_left
  · intro u hSw
    have y0 := hSw.2.cell 0
    have y1 := hSw.2.cell 1
    have y2 := hSw.2.cell 2
    have y3 := hSw.2.cell 3
    have y4 := hSw.2.cell 4
    have y5 := hSw.2.cell 5
    have y6 := hSw.2.cell 6
    go_simp
    try with_reducible rfl
  · rfl
  · exact fun _ _ _ h => h
  try simp only [Act.put, List.setIfInBounds_toArray, List.set_cons_zero, List.set_cons_succ]
  refine held_take (i := 4) (fuel := 12) (v := ?_) (by rw [List.getElem?_toArray]; rfl) (by kernel_rfl) (by kernel_rfl) (by kernel_rfl) hHeld ?_ ?_ ?_ ?_
  rotate_left
  · intro u hSw
    go_simp
    try with_reducible rfl
  · rfl
  · exact fun _ _ _ h => h
  try simp only [Act.put, List.setIfInBounds_toArray, List.set_cons_zero, List.set_cons_succ]
  refine held_take (i := 5) (fuel := 11) (v := ?_) (by rw [List.getElem?_toArray]; rfl) (by kernel_rfl) (by kernel_rfl) (by kernel_rfl) hHeld ?_ ?_ ?_ ?_
  rotate_left
  · intro u hSw
    have y0 := hSw.2.cell 0
    have y1 := hSw.2.cell 1
    have y2 := hSw.2.cell 2
    have y3 := hSw.2.cell 3
    have y4 := hSw.2.cell 4
    have y5 := hSw.2.cell 5
    have y6 := hSw.2.cell 6
    go_simp
    try with_reducible rfl
  · rfl
  · exact fun _ _ _ h => h
  try simp only [Act.put, List.setIfInBounds_toArray, List.set_cons_zero, List.set_cons_succ]
  refine held_take (i := 6) (fuel := 10) (v := ?_) (by rw [List.getElem?_toArray]; rfl) (by kernel_rfl) (by kernel_rfl) (by kernel_rfl) hHeld ?_ ?_ ?_ ?_
  rotate_left
  · intro u hSw
    go_simp
    try with_reducible rfl
  · rfl
  · exact fun _ _ _ h => h
  try simp only [Act.put, List.setIfInBounds_toArray, List.set_cons_zero, List.set_cons_succ]
  refine held_take (i := 7) (fuel := 9) (v := ?_) (by rw [List.getElem?_toArray]; rfl) (by kernel_rfl) (by kernel_rfl) (by kernel_rfl) hHeld ?_ ?_ ?_ ?_
  rotate_left
  · intro u hSw
    have y0 := hSw.2.cell 0
    have y1 := hSw.2.cell 1
    have y2 := hSw.2.cell 2
    have y3 := hSw.2.cell 3
    have y4 := hSw.2.cell 4
    have y5 := hSw.2.cell 5
    have y6 := hSw.2.cell 6
    go_simp
    try with_reducible rfl
  · rfl
  · exact fun _ _ _ h => h
  try simp only [Act.put, List.setIfInBounds_toArray, List.set_cons_zero, List.set_cons_succ]
  refine held_take (i := 8) (fuel := 8) (v := ?_) (by rw [List.getElem?_toArray]; rfl) (by kernel_rfl) (by kernel_rfl) (by kernel_rfl) hHeld ?_ ?_ ?_ ?_
  rotate_left
  · intro u hSw
    go_simp
    try with_reducible rfl
  · rfl
  · exact fun _ _ _ h => h
  try simp only [Act.put, List.setIfInBounds_toArray, List.set_cons_zero, List.set_cons_succ]
  refine held_take (i := 9) (fuel := 7) (v := ?_) (by rw [List.getElem?_toArray]; rfl) (by kernel_rfl) (by kernel_rfl) (by kernel_rfl) hHeld ?_ ?_ ?_ ?_
  rotate_left
  · intro u hSw
    go_simp
    try with_reducible rfl
  · rfl
  · exact fun _ _ _ h => h
  try simp only [Act.put, List.setIfInBounds_toArray, List.set_cons_zero, List.set_cons_succ]
  refine held_take (i := 10) (fuel := 6) (v := ?_) (by rw [List.getElem?_toArray]; rfl) (by kernel_rfl) (by kernel_rfl) (by kernel_rfl) hHeld ?_ ?_ ?_ ?_
  rotate_left
  · intro u hSw
    have y0 := hSw.2.cell 0
    have y1 := hSw.2.cell 1
    have y2 := hSw.2.cell 2
    have y3 := hSw.2.cell 3
    have y4 := hSw.2.cell 4
    have y5 := hSw.2.cell 5
    have y6 := hSw.2.cell 6
    go_simp
    try with_reducible rfl
  · rfl
  · exact fun _ _ _ h => h
  try simp only [Act.put, List.setIfInBounds_toArray, List.set_cons_zero, List.set_cons_succ]
  refine held_take (i := 11) (fuel := 5) (v := ?_) (by rw [List.getElem?_toArray]; rfl) (by kernel_rfl) (by kernel_rfl) (by kernel_rfl) hHeld ?_ ?_ ?_ ?_
  rotate_left
  · intro u hSw
    go_simp
    try with_reducible rfl
  · rfl
  · exact fun _ _ _ h => h
  try simp only [Act.put, List.setIfInBounds_toArray, List.set_cons_zero, List.set_cons_succ]
  refine held_take (i := 12) (fuel := 4) (v := ?_) (by rw [List.getElem?_toArray]; rfl) (by kernel_rfl) (by kernel_rfl) (by kernel_rfl) hHeld ?_ ?_ ?_ ?_
  rotate_left
  · intro u hSw
    go_simp
    try with_reducible rfl
  · rfl
  · exact fun _ _ _ h => h
  try simp only [Act.put, List.setIfInBounds_toArray, List.set_cons_zero, List.set_cons_succ]
  refine held_take (i := 13) (fuel := 3) (v := ?_) (by rw [List.getElem?_toArray]; rfl) (by kernel_rfl) (by kernel_rfl) (by kernel_rfl) hHeld ?_ ?_ ?_ ?_
  rotate_left
  · intro u hSw
    go_simp
    try with_reducible rfl
  · rfl
  · exact fun _ _ _ h => h
  try simp only [Act.put, List.setIfInBounds_toArray, List.set_cons_zero, List.set_cons_succ]
  refine held_take (i := 14) (fuel := 2) (v := ?_) (by rw [List.getElem?_toArray]; rfl) (by kernel_rfl) (by kernel_rfl) (by kernel_rfl) hHeld ?_ ?_ ?_ ?_
  rotate_left
  · intro u hSw
    go_simp
    try with_reducible rfl
  · rfl
  · exact fun _ _ _ h => h
  try simp only [Act.put, List.setIfInBounds_toArray, List.set_cons_zero, List.set_cons_succ]
  refine held_take (i := 15) (fuel := 1) (v := ?_) (by rw [List.getElem?_toArray]; rfl) (by kernel_rfl) (by kernel_rfl) (by kernel_rfl) hHeld ?_ ?_ ?_ ?_
  rotate_left
  · intro u hSw
    go_simp
    try with_reducible rfl
  · rfl
  · exact fun _ _ _ h => h
  try simp only [Act.put, List.setIfInBounds_toArray, List.set_cons_zero, List.set_cons_succ]
  refine held_one (i := 16) (fuel := 0) (by kernel_rfl) (by rw [List.getElem?_toArray]; rfl) (fun K hK => ?_)
  go_simp
  refine hK.out _ _ ?_ (fun hHeld => ?_)
  · exact ⟨((Below.setCell (p := ⟨w.heap.size + 1 + 1, 6, none⟩) (Below.setCell (p := ⟨w.heap.size + 1 + 1, 5, none⟩) (Below.setCell (p := ⟨w.heap.size + 1 + 1, 4, none⟩) (Below.setCell (p := ⟨w.heap.size + 1 + 1, 3, none⟩) (Below.setCell (p := ⟨w.heap.size + 1 + 1, 2, none⟩) (Below.setCell (p := ⟨w.heap.size + 1 + 1, 1, none⟩) (Below.setCell (p := ⟨w.heap.size + 1 + 1, 0, none⟩) HBW.out (show w.heap.size ≤ w.heap.size + 1 + 1 by omega) (.slice A0 n0 c0)) (show w.heap.size ≤ w.heap.size + 1 + 1 by omega) (.slice A1 n1 c1)) (show w.heap.size ≤ w.heap.size + 1 + 1 by omega) (.slice A2 m c2)) (show w.heap.size ≤ w.heap.size + 1 + 1 by omega) (.slice none 0 0)) (show w.heap.size ≤ w.heap.size + 1 + 1 by omega) (.slice none 0 0)) (show w.heap.size ≤ w.heap.size + 1 + 1 by omega) (.slice none 0 0)) (show w.heap.size ≤ w.heap.size + 1 + 1 by omega) (.slice none 0 0))).drew, Blk_drew (Blk.far (p := ⟨w.heap.size + 1 + 1, 6, none⟩) (Blk.far (p := ⟨w.heap.size + 1 + 1, 5, none⟩) (Blk.far (p := ⟨w.heap.size + 1 + 1, 4, none⟩) (Blk.far (p := ⟨w.heap.size + 1 + 1, 3, none⟩) (Blk.far (p := ⟨w.heap.size + 1 + 1, 2, none⟩) (Blk.far (p := ⟨w.heap.size + 1 + 1, 1, none⟩) (Blk.far (p := ⟨w.heap.size + 1 + 1, 0, none⟩) HKW.out (show w.heap.size ≠ w.heap.size + 1 + 1 by omega) (.slice A0 n0 c0)) (show w.heap.size ≠ w.heap.size + 1 + 1 by omega) (.slice A1 n1 c1)) (show w.heap.size ≠ w.heap.size + 1 + 1 by omega) (.slice A2 m c2)) (show w.heap.size ≠ w.heap.size + 1 + 1 by omega) (.slice none 0 0)) (show w.heap.size ≠ w.heap.size + 1 + 1 by omega) (.slice none 0 0)) (show w.heap.size ≠ w.heap.size + 1 + 1 by omega) (.slice none 0 0)) (show w.heap.size ≠ w.heap.size + 1 + 1 by omega) (.slice none 0 0))⟩
  clear hK K
  try simp only [Act.put, List.setIfInBounds_toArray, List.set_cons_zero, List.set_cons_succ]
  have HY : Hid (Blk (((((((W.setCell ⟨w.heap.size + 1 + 1, 0, none⟩ (.slice A0 n0 c0)).setCell ⟨w.heap.size + 1 + 1, 1, none⟩ (.slice A1 n1 c1)).setCell ⟨w.heap.size + 1 + 1, 2, none⟩ (.slice A2 m c2)).setCell ⟨w.heap.size + 1 + 1, 3, none⟩ (.slice none 0 0)).setCell ⟨w.heap.size + 1 + 1, 4, none⟩ (.slice none 0 0)).setCell ⟨w.heap.size + 1 + 1, 5, none⟩ (.slice none 0 0)).setCell ⟨w.heap.size + 1 + 1, 6, none⟩ (.slice none 0 0)).drew (w.heap.size + 1 + 1) 24 #[.slice A0 n0 c0, .slice A1 n1 c1, .slice A2 m c2, .slice none 0 0, .slice none 0 0, .slice none 0 0, .slice none 0 0]) := Lib.hid (Blk_drew (((((((HRW.out.set_ 0 (.slice A0 n0 c0)).set_ 1 (.slice A1 n1 c1)).set_ 2 (.slice A2 m c2)).set_ 3 (.slice none 0 0)).set_ 4 (.slice none 0 0)).set_ 5 (.slice none 0 0)).set_ 6 (.slice none 0 0)))
  refine wpAnyH_done (by kernel_rfl) ?_ _
  have HBE := Lib.hid hHeld.1
  clear hHeld
  (try simp only [Exit.inBlock, Exit.then, Exit.inSwitch]); go_wp2_with fail
  (try simp only [Exit.inBlock, Exit.then]); refine bodyPost_ret (results_tc rfl _ _ _ _ _ _ _ rfl HY.out Tryd.underlying24 rfl (by kernel_rfl)) rfl ?_
  have hr := H.out.below (HBE.out.mono hB)
  refine ⟨A2, n2, c2, ⟨A0, n0, c0, A1, n1, c1, A2, m, c2, none, 0, 0, none, 0, 0, none, 0, 0, none, 0, 0⟩, rfl, ?_, ?_, ?_, HBE.out⟩
  · exact hr.gl
  · exact ⟨hr.fl, hr.pr, hr.gl.front15 HM.out, RdS.nil _ _ _, RdS.nil _ _ _, RdS.nil _ _ _, RdS.nil _ _ _⟩
  · have hcn := HCN.out
    have hm := HM.out
    show n0 + n1 + m + 0 + 0 + 0 + 0 ≤ 50000
    omega

set_option maxRecDepth 100000 in
set_option maxHeartbeats 12800000 in
theorem ahead_5 (X : Dcl) (w : World) (B : Nat) (hB : B ≤ w.heap.size) (d : Dl) (h : X.Rd w B d) (hcap : X.n3 ≤ X.c3) (hn : cntD d ≤ 50000) (er : Int) (s : ByteArray) (m : Nat) (hm : m < X.n3) :
    Calls Tryd.prog 23 #[dclV X, .agg #[.int .i64 er, .int .i64 5, .int .i64 (m : Int), .string s]] w (OutA B w (aheadD d 5 m)) := by
  have hcnt := h.cnt
  obtain ⟨A0, n0, c0, A1, n1, c1, A2, n2, c2, A3, n3, c3, A4, n4, c4, A5, n5, c5, A6, n6, c6⟩ := X
  simp only at hcnt hcap hm
  have HCN : Hid (n0 + n1 + n2 + n3 + n4 + n5 + n6 ≤ 50000) := Lib.hid (by omega)
  have hs3 : n3 ≤ 50000 := by omega
  have H := Lib.hid h
  have HM : Hid (m ≤ n3) := Lib.hid (by omega)
  have hkc : m ≤ c3 := by omega
  have hmi : (m : Int) < (n3 : Int) := by omega
  have hmn : ¬ (n3 : Int) < (m : Int) := by omega
  have hml : (m : Int) ≤ (n3 : Int) := by omega
  have hnn : ¬ n3 < m := by omega
  have hm0 : (0 : Int) ≤ (m : Int) ∧ (m : Int) ≤ (c3 : Int) := by omega
  have hmin : min (m : Int) (n3 : Int) = (m : Int) := by omega
  clear h hcnt hn
  show Calls Tryd.prog _ #[.agg #[.slice A0 n0 c0, .slice A1 n1 c1, .slice A2 n2 c2, .slice A3 n3 c3, .slice A4 n4 c4, .slice A5 n5 c5, .slice A6 n6 c6], .agg #[.int .i64 er, .int .i64 5, .int .i64 (m : Int), .string s]] w _
  obtain ⟨W, hW⟩ : ∃ W, W = ((w.alloc (.cells #[.slice A0 n0 c0, .slice A1 n1 c1, .slice A2 n2 c2, .slice A3 n3 c3, .slice A4 n4 c4, .slice A5 n5 c5, .slice A6 n6 c6] 24)).alloc (.cells #[.int .i64 er, .int .i64 5, .int .i64 (m : Int), .string s] 30)).alloc (.cells #[.slice none 0 0, .slice none 0 0, .slice none 0 0, .slice none 0 0, .slice none 0 0, .slice none 0 0, .slice none 0 0] 24) := ⟨_, rfl⟩
  have HBW : Hid (Below w.heap.size w W) := Lib.hid (by rw [hW]; exact (((Below.refl _ _).alloc (Nat.le_refl _) _).alloc (by simp) _).alloc (by simp; omega) _)
  have HKW : Hid (Blk W w.heap.size 24 #[.slice A0 n0 c0, .slice A1 n1 c1, .slice A2 n2 c2, .slice A3 n3 c3, .slice A4 n4 c4, .slice A5 n5 c5, .slice A6 n6 c6]) := Lib.hid (by rw [hW]; exact ((Blk.new _ _ _).alloc _).alloc _)
  have HFW : Hid (Blk W (w.heap.size + 1) 30 #[.int .i64 er, .int .i64 5, .int .i64 (m : Int), .string s]) := Lib.hid (by rw [hW]; exact (Blk.new_at _ _ _ _ (by simp)).alloc _)
  have HRW : Hid (Blk W (w.heap.size + 1 + 1) 24 #[.slice none 0 0, .slice none 0 0, .slice none 0 0, .slice none 0 0, .slice none 0 0, .slice none 0 0, .slice none 0 0]) := Lib.hid (by rw [hW]; exact Blk.new_at _ _ _ _ (by simp))
  have f1 : W.cell? ⟨w.heap.size + 1, 1, none⟩ = some (.int .i64 5) := HFW.out.cell 1
  have f2 : W.cell? ⟨w.heap.size + 1, 2, none⟩ = some (.int .i64 (m : Int)) := HFW.out.cell 2
  clear HFW
  go_enter Tryd.func23, Tryd.ntmps23
  go_wp2_with fail
  rw [← hW]
  clear hW
  go_wp2_with fail
  have r0 : W.frozen? ⟨w.heap.size + 1 + 1, 0, none⟩ = false := HRW.out.frozen 0
  have g0 : W.cell? ⟨w.heap.size + 1 + 1, 0, none⟩ = some (.slice none 0 0) := HRW.out.cell 0
  have r1 : W.frozen? ⟨w.heap.size + 1 + 1, 1, none⟩ = false := HRW.out.frozen 1
  have g1 : W.cell? ⟨w.heap.size + 1 + 1, 1, none⟩ = some (.slice none 0 0) := HRW.out.cell 1
  have r2 : W.frozen? ⟨w.heap.size + 1 + 1, 2, none⟩ = false := HRW.out.frozen 2
  have g2 : W.cell? ⟨w.heap.size + 1 + 1, 2, none⟩ = some (.slice none 0 0) := HRW.out.cell 2
  have r3 : W.frozen? ⟨w.heap.size + 1 + 1, 3, none⟩ = false := HRW.out.frozen 3
  have g3 : W.cell? ⟨w.heap.size + 1 + 1, 3, none⟩ = some (.slice none 0 0) := HRW.out.cell 3
  have r4 : W.frozen? ⟨w.heap.size + 1 + 1, 4, none⟩ = false := HRW.out.frozen 4
  have g4 : W.cell? ⟨w.heap.size + 1 + 1, 4, none⟩ = some (.slice none 0 0) := HRW.out.cell 4
  have r5 : W.frozen? ⟨w.heap.size + 1 + 1, 5, none⟩ = false := HRW.out.frozen 5
  have g5 : W.cell? ⟨w.heap.size + 1 + 1, 5, none⟩ = some (.slice none 0 0) := HRW.out.cell 5
  have r6 : W.frozen? ⟨w.heap.size + 1 + 1, 6, none⟩ = false := HRW.out.frozen 6
  have g6 : W.cell? ⟨w.heap.size + 1 + 1, 6, none⟩ = some (.slice none 0 0) := HRW.out.cell 6
  refine wp_region_held_drew (S := fun w' => Below w.heap.size w w' ∧ Blk w' w.heap.size 24 #[.slice A0 n0 c0, .slice A1 n1 c1, .slice A2 n2 c2, .slice A3 n3 c3, .slice A4 n4 c4, .slice A5 n5 c5, .slice A6 n6 c6]) (by kernel_rfl) ⟨HBW.out.drew, HKW.out⟩ (fun hHeld => ?_)
  refine held_take (i := 0) (fuel := 18) (v := ?_) (by rw [List.getElem?_toArray]; rfl) (by kernel_rfl) (by kernel_rfl) (by kernel_rfl) hHeld ?_ ?_ ?_ ?_
  rotate_left
  · intro u hSw
    go_simp
    try with_reducible rfl
  · rfl
  · exact fun _ _ _ h => h
  try simp only [Act.put, List.setIfInBounds_toArray, List.set_cons_zero, List.set_cons_succ]
  refine held_take (i := 1) (fuel := 17) (v := ?_) (by rw [List.getElem?_toArray]; rfl) (by kernel_rfl) (by kernel_rfl) (by kernel_rfl) hHeld ?_ ?_ ?_ ?_
  rotate_left
  · intro u hSw
    have y0 := hSw.2.cell 0
    have y1 := hSw.2.cell 1
    have y2 := hSw.2.cell 2
    have y3 := hSw.2.cell 3
    have y4 := hSw.2.cell 4
    have y5 := hSw.2.cell 5
    have y6 := hSw.2.cell 6
    go_simp
    try with_reducible rfl
  · rfl
  · exact fun _ _ _ h => h
  try simp only [Act.put, List.setIfInBounds_toArray, List.set_cons_zero, List.set_cons_succ]
  refine held_take (i := 2) (fuel := 16) (v := ?_) (by rw [List.getElem?_toArray]; rfl) (by kernel_rfl) (by kernel_rfl) (by kernel_rfl) hHeld ?_ ?_ ?_ ?_
  rotate_left
  · intro u hSw
    go_simp
    try with_reducible rfl
  · rfl
  · exact fun _ _ _ h => h
  try simp only [Act.put, List.setIfInBounds_toArray, List.set_cons_zero, List.set_cons_succ]
  refine held_take (i := 3) (fuel := 15) (v := ?_) (by rw [List.getElem?_toArray]; rfl) (by kernel_rfl) (by kernel_rfl) (by kernel_rfl) hHeld ?_ ?_ ?_ ?_
  rotate_left
  · intro u hSw
    have y0 := hSw.2.cell 0
    have y1 := hSw.2.cell 1
    have y2 := hSw.2.cell 2
    have y3 := hSw.2.cell 3
    have y4 := hSw.2.cell 4
    have y5 := hSw.2.cell 5
    have y6 := hSw.2.cell 6
    go_simp
    try with_reducible rfl
  · rfl
  · exact fun _ _ _ h => h
  try simp only [Act.put, List.setIfInBounds_toArray, List.set_cons_zero, List.set_cons_succ]
  refine held_take (i := 4) (fuel := 14) (v := ?_) (by rw [List.getElem?_toArray]; rfl) (by kernel_rfl) (by kernel_rfl) (by kernel_rfl) hHeld ?_ ?_ ?_ ?_
  rotate_left
  · intro u hSw
    go_simp
    try with_reducible rfl
  · rfl
  · exact fun _ _ _ h => h
  try simp only [Act.put, List.setIfInBounds_toArray, List.set_cons_zero, List.set_cons_succ]
  refine held_take (i := 5) (fuel := 13) (v := ?_) (by rw [List.getElem?_toArray]; rfl) (by kernel_rfl) (by kernel_rfl) (by kernel_rfl) hHeld ?_ ?_ ?_ ?_
  rotate_left
  · intro u hSw
    have y0 := hSw.2.cell 0
    have y1 := hSw.2.cell 1
    have y2 := hSw.2.cell 2
    have y3 := hSw.2.cell 3
    have y4 := hSw.2.cell 4
    have y5 := hSw.2.cell 5
    have y6 := hSw.2.cell 6
    go_simp
    try with_reducible rfl
  · rfl
  · exact fun _ _ _ h => h
  try simp only [Act.put, List.setIfInBounds_toArray, List.set_cons_zero, List.set_cons_succ]
  refine held_take (i := 6) (fuel := 12) (v := ?_) (by rw [List.getElem?_toArray]; rfl) (by kernel_rfl) (by kernel_rfl) (by kernel_rfl) hHeld ?_ ?_ ?_ ?_
  rotate_left
  · intro u hSw
    go_simp
    try with_reducible rfl
  · rfl
  · exact fun _ _ _ h => h
  try simp only [Act.put, List.setIfInBounds_toArray, List.set_cons_zero, List.set_cons_succ]
  refine held_take (i := 7) (fuel := 11) (v := ?_) (by rw [List.getElem?_toArray]; rfl) (by kernel_rfl) (by kernel_rfl) (by kernel_rfl) hHeld ?_ ?_ ?_ ?_
  rotate_left
  · intro u hSw
    have y0 := hSw.2.cell 0
    have y1 := hSw.2.cell 1
    have y2 := hSw.2.cell 2
    have y3 := hSw.2.cell 3
    have y4 := hSw.2.cell 4
    have y5 := hSw.2.cell 5
    have y6 := hSw.2.cell 6
    go_simp
    try with_reducible rfl
  · rfl
  · exact fun _ _ _ h => h
  try simp only [Act.put, List.setIfInBounds_toArray, List.set_cons_zero, List.set_cons_succ]
  refine held_take (i := 8) (fuel := 10) (v := ?_) (by rw [List.getElem?_toArray]; rfl) (by kernel_rfl) (by kernel_rfl) (by kernel_rfl) hHeld ?_ ?_ ?_ ?_
  rotate_left
  · intro u hSw
    go_simp
    try with_reducible rfl
  · rfl
  · exact fun _ _ _ h => h
  try simp only [Act.put, List.setIfInBounds_toArray, List.set_cons_zero, List.set_cons_succ]
  refine held_take (i := 9) (fuel := 9) (v := ?_) (by rw [List.getElem?_toArray]; rfl) (by kernel_rfl) (by kernel_rfl) (by kernel_rfl) hHeld ?_ ?_ ?_ ?_
  rotate_left
  · intro u hSw
    have y0 := hSw.2.cell 0
    have y1 := hSw.2.cell 1
    have y2 := hSw.2.cell 2
    have y3 := hSw.2.cell 3
    have y4 := hSw.2.cell 4
    have y5 := hSw.2.cell 5
    have y6 := hSw.2.cell 6
    go_simp
    try with_reducible rfl
  · rfl
  · exact fun _ _ _ h => h
  try simp only [Act.put, List.setIfInBounds_toArray, List.set_cons_zero, List.set_cons_succ]
  refine held_take (i := 10) (fuel := 8) (v := ?_) (by rw [List.getElem?_toArray]; rfl) (by kernel_rfl) (by kernel_rfl) (by kernel_rfl) hHeld ?_ ?_ ?_ ?_
  rotate_left
  · intro u hSw
    go_simp
    try with_reducible rfl
  · rfl
  · exact fun _ _ _ h => h
  try simp only [Act.put, List.setIfInBounds_toArray, List.set_cons_zero, List.set_cons_succ]
  refine held_take (i := 11) (fuel := 7) (v := ?_) (by rw [List.getElem?_toArray]; rfl) (by kernel_rfl) (by kernel_rfl) (by kernel_rfl) hHeld ?_ ?_ ?_ ?_
  rotate_left
  · intro u hSw
    go_simp
    try with_reducible rfl
  · rfl
  · exact fun _ _ _ h => h
  try simp only [Act.put, List.setIfInBounds_toArray, List.set_cons_zero, List.set_cons_succ]
  refine held_take (i := 12) (fuel := 6) (v := ?_) (by rw [List.getElem?_toArray]; rfl) (by kernel_rfl) (by kernel_rfl) (by kernel_rfl) hHeld ?_ ?_ ?_ ?_
  rotate_left
  · intro u hSw
    have y0 := hSw.2.cell 0
    have y1 := hSw.2.cell 1
    have y2 := hSw.2.cell 2
    have y3 := hSw.2.cell 3
    have y4 := hSw.2.cell 4
    have y5 := hSw.2.cell 5
    have y6 := hSw.2.cell 6
    go_simp
    try with_reducible rfl
  · rfl
  · exact fun _ _ _ h => h
  try simp only [Act.put, List.setIfInBounds_toArray, List.set_cons_zero, List.set_cons_succ]
  refine held_take (i := 13) (fuel := 5) (v := ?_) (by rw [List.getElem?_toArray]; rfl) (by kernel_rfl) (by kernel_rfl) (by kernel_rfl) hHeld ?_ ?_ ?_ ?_
  rotate_left
  · intro u hSw
    go_simp
    try with_reducible rfl
  · rfl
  · exact fun _ _ _ h => h
  try simp only [Act.put, List.setIfInBounds_toArray, List.set_cons_zero, List.set_cons_succ]
  refine held_take (i := 14) (fuel := 4) (v := ?_) (by rw [List.getElem?_toArray]; rfl) (by kernel_rfl) (by kernel_rfl) (by kernel_rfl) hHeld ?_ ?_ ?_ ?_
  rotate_left
  · intro u hSw
    go_simp
    try with_reducible rfl
  · rfl
  · exact fun _ _ _ h => h
  try simp only [Act.put, List.setIfInBounds_toArray, List.set_cons_zero, List.set_cons_succ]
  refine held_take (i := 15) (fuel := 3) (v := ?_) (by rw [List.getElem?_toArray]; rfl) (by kernel_rfl) (by kernel_rfl) (by kernel_rfl) hHeld ?_ ?_ ?_ ?_
  rotate_left
  · intro u hSw
    go_simp
    try with_reducible rfl
  · rfl
  · exact fun _ _ _ h => h
  try simp only [Act.put, List.setIfInBounds_toArray, List.set_cons_zero, List.set_cons_succ]
  refine held_take (i := 16) (fuel := 2) (v := ?_) (by rw [List.getElem?_toArray]; rfl) (by kernel_rfl) (by kernel_rfl) (by kernel_rfl) hHeld ?_ ?_ ?_ ?_
  rotate_left
  · intro u hSw
    go_simp
    try with_reducible rfl
  · rfl
  · exact fun _ _ _ h => h
  try simp only [Act.put, List.setIfInBounds_toArray, List.set_cons_zero, List.set_cons_succ]
  refine held_take (i := 17) (fuel := 1) (v := ?_) (by rw [List.getElem?_toArray]; rfl) (by kernel_rfl) (by kernel_rfl) (by kernel_rfl) hHeld ?_ ?_ ?_ ?_
  rotate_left
  · intro u hSw
    go_simp
    try with_reducible rfl
  · rfl
  · exact fun _ _ _ h => h
  try simp only [Act.put, List.setIfInBounds_toArray, List.set_cons_zero, List.set_cons_succ]
  refine held_one (i := 18) (fuel := 0) (by kernel_rfl) (by rw [List.getElem?_toArray]; rfl) (fun K hK => ?_)
  go_simp
  refine hK.out _ _ ?_ (fun hHeld => ?_)
  · exact ⟨((Below.setCell (p := ⟨w.heap.size + 1 + 1, 6, none⟩) (Below.setCell (p := ⟨w.heap.size + 1 + 1, 5, none⟩) (Below.setCell (p := ⟨w.heap.size + 1 + 1, 4, none⟩) (Below.setCell (p := ⟨w.heap.size + 1 + 1, 3, none⟩) (Below.setCell (p := ⟨w.heap.size + 1 + 1, 2, none⟩) (Below.setCell (p := ⟨w.heap.size + 1 + 1, 1, none⟩) (Below.setCell (p := ⟨w.heap.size + 1 + 1, 0, none⟩) HBW.out (show w.heap.size ≤ w.heap.size + 1 + 1 by omega) (.slice A0 n0 c0)) (show w.heap.size ≤ w.heap.size + 1 + 1 by omega) (.slice A1 n1 c1)) (show w.heap.size ≤ w.heap.size + 1 + 1 by omega) (.slice A2 n2 c2)) (show w.heap.size ≤ w.heap.size + 1 + 1 by omega) (.slice A3 m c3)) (show w.heap.size ≤ w.heap.size + 1 + 1 by omega) (.slice none 0 0)) (show w.heap.size ≤ w.heap.size + 1 + 1 by omega) (.slice none 0 0)) (show w.heap.size ≤ w.heap.size + 1 + 1 by omega) (.slice none 0 0))).drew, Blk_drew (Blk.far (p := ⟨w.heap.size + 1 + 1, 6, none⟩) (Blk.far (p := ⟨w.heap.size + 1 + 1, 5, none⟩) (Blk.far (p := ⟨w.heap.size + 1 + 1, 4, none⟩) (Blk.far (p := ⟨w.heap.size + 1 + 1, 3, none⟩) (Blk.far (p := ⟨w.heap.size + 1 + 1, 2, none⟩) (Blk.far (p := ⟨w.heap.size + 1 + 1, 1, none⟩) (Blk.far (p := ⟨w.heap.size + 1 + 1, 0, none⟩) HKW.out (show w.heap.size ≠ w.heap.size + 1 + 1 by omega) (.slice A0 n0 c0)) (show w.heap.size ≠ w.heap.size + 1 + 1 by omega) (.slice A1 n1 c1)) (show w.heap.size ≠ w.heap.size + 1 + 1 by omega) (.slice A2 n2 c2)) (show w.heap.size ≠ w.heap.size + 1 + 1 by omega) (.slice A3 m c3)) (show w.heap.size ≠ w.heap.size + 1 + 1 by omega) (.slice none 0 0)) (show w.heap.size ≠ w.heap.size + 1 + 1 by omega) (.slice none 0 0)) (show w.heap.size ≠ w.heap.size + 1 + 1 by omega) (.slice none 0 0))⟩
  clear hK K
  try simp only [Act.put, List.setIfInBounds_toArray, List.set_cons_zero, List.set_cons_succ]
  have HY : Hid (Blk (((((((W.setCell ⟨w.heap.size + 1 + 1, 0, none⟩ (.slice A0 n0 c0)).setCell ⟨w.heap.size + 1 + 1, 1, none⟩ (.slice A1 n1 c1)).setCell ⟨w.heap.size + 1 + 1, 2, none⟩ (.slice A2 n2 c2)).setCell ⟨w.heap.size + 1 + 1, 3, none⟩ (.slice A3 m c3)).setCell ⟨w.heap.size + 1 + 1, 4, none⟩ (.slice none 0 0)).setCell ⟨w.heap.size + 1 + 1, 5, none⟩ (.slice none 0 0)).setCell ⟨w.heap.size + 1 + 1, 6, none⟩ (.slice none 0 0)).drew (w.heap.size + 1 + 1) 24 #[.slice A0 n0 c0, .slice A1 n1 c1, .slice A2 n2 c2, .slice A3 m c3, .slice none 0 0, .slice none 0 0, .slice none 0 0]) := Lib.hid (Blk_drew (((((((HRW.out.set_ 0 (.slice A0 n0 c0)).set_ 1 (.slice A1 n1 c1)).set_ 2 (.slice A2 n2 c2)).set_ 3 (.slice A3 m c3)).set_ 4 (.slice none 0 0)).set_ 5 (.slice none 0 0)).set_ 6 (.slice none 0 0)))
  refine wpAnyH_done (by kernel_rfl) ?_ _
  have HBE := Lib.hid hHeld.1
  clear hHeld
  (try simp only [Exit.inBlock, Exit.then, Exit.inSwitch]); go_wp2_with fail
  (try simp only [Exit.inBlock, Exit.then]); refine bodyPost_ret (results_tc rfl _ _ _ _ _ _ _ rfl HY.out Tryd.underlying24 rfl (by kernel_rfl)) rfl ?_
  have hr := H.out.below (HBE.out.mono hB)
  refine ⟨A3, n3, c3, ⟨A0, n0, c0, A1, n1, c1, A2, n2, c2, A3, m, c3, none, 0, 0, none, 0, 0, none, 0, 0⟩, rfl, ?_, ?_, ?_, HBE.out⟩
  · exact hr.ob
  · exact ⟨hr.fl, hr.pr, hr.gl, hr.ob.front15 HM.out, RdS.nil _ _ _, RdS.nil _ _ _, RdS.nil _ _ _⟩
  · have hcn := HCN.out
    have hm := HM.out
    show n0 + n1 + n2 + m + 0 + 0 + 0 ≤ 50000
    omega

set_option maxRecDepth 100000 in
set_option maxHeartbeats 12800000 in
theorem ahead_6 (X : Dcl) (w : World) (B : Nat) (hB : B ≤ w.heap.size) (d : Dl) (h : X.Rd w B d) (hcap : X.n4 ≤ X.c4) (hn : cntD d ≤ 50000) (er : Int) (s : ByteArray) (m : Nat) (hm : m < X.n4) :
    Calls Tryd.prog 23 #[dclV X, .agg #[.int .i64 er, .int .i64 6, .int .i64 (m : Int), .string s]] w (OutA B w (aheadD d 6 m)) := by
  have hcnt := h.cnt
  obtain ⟨A0, n0, c0, A1, n1, c1, A2, n2, c2, A3, n3, c3, A4, n4, c4, A5, n5, c5, A6, n6, c6⟩ := X
  simp only at hcnt hcap hm
  have HCN : Hid (n0 + n1 + n2 + n3 + n4 + n5 + n6 ≤ 50000) := Lib.hid (by omega)
  have hs4 : n4 ≤ 50000 := by omega
  have H := Lib.hid h
  have HM : Hid (m ≤ n4) := Lib.hid (by omega)
  have hkc : m ≤ c4 := by omega
  have hmi : (m : Int) < (n4 : Int) := by omega
  have hmn : ¬ (n4 : Int) < (m : Int) := by omega
  have hml : (m : Int) ≤ (n4 : Int) := by omega
  have hnn : ¬ n4 < m := by omega
  have hm0 : (0 : Int) ≤ (m : Int) ∧ (m : Int) ≤ (c4 : Int) := by omega
  have hmin : min (m : Int) (n4 : Int) = (m : Int) := by omega
  clear h hcnt hn
  show Calls Tryd.prog _ #[.agg #[.slice A0 n0 c0, .slice A1 n1 c1, .slice A2 n2 c2, .slice A3 n3 c3, .slice A4 n4 c4, .slice A5 n5 c5, .slice A6 n6 c6], .agg #[.int .i64 er, .int .i64 6, .int .i64 (m : Int), .string s]] w _
  obtain ⟨W, hW⟩ : ∃ W, W = ((w.alloc (.cells #[.slice A0 n0 c0, .slice A1 n1 c1, .slice A2 n2 c2, .slice A3 n3 c3, .slice A4 n4 c4, .slice A5 n5 c5, .slice A6 n6 c6] 24)).alloc (.cells #[.int .i64 er, .int .i64 6, .int .i64 (m : Int), .string s] 30)).alloc (.cells #[.slice none 0 0, .slice none 0 0, .slice none 0 0, .slice none 0 0, .slice none 0 0, .slice none 0 0, .slice none 0 0] 24) := ⟨_, rfl⟩
  have HBW : Hid (Below w.heap.size w W) := Lib.hid (by rw [hW]; exact (((Below.refl _ _).alloc (Nat.le_refl _) _).alloc (by simp) _).alloc (by simp; omega) _)
  have HKW : Hid (Blk W w.heap.size 24 #[.slice A0 n0 c0, .slice A1 n1 c1, .slice A2 n2 c2, .slice A3 n3 c3, .slice A4 n4 c4, .slice A5 n5 c5, .slice A6 n6 c6]) := Lib.hid (by rw [hW]; exact ((Blk.new _ _ _).alloc _).alloc _)
  have HFW : Hid (Blk W (w.heap.size + 1) 30 #[.int .i64 er, .int .i64 6, .int .i64 (m : Int), .string s]) := Lib.hid (by rw [hW]; exact (Blk.new_at _ _ _ _ (by simp)).alloc _)
  have HRW : Hid (Blk W (w.heap.size + 1 + 1) 24 #[.slice none 0 0, .slice none 0 0, .slice none 0 0, .slice none 0 0, .slice none 0 0, .slice none 0 0, .slice none 0 0]) := Lib.hid (by rw [hW]; exact Blk.new_at _ _ _ _ (by simp))
  have f1 : W.cell? ⟨w.heap.size + 1, 1, none⟩ = some (.int .i64 6) := HFW.out.cell 1
  have f2 : W.cell? ⟨w.heap.size + 1, 2, none⟩ = some (.int .i64 (m : Int)) := HFW.out.cell 2
  clear HFW
  go_enter Tryd.func23, Tryd.ntmps23
  go_wp2_with fail
  rw [← hW]
  clear hW
  go_wp2_with fail
  have r0 : W.frozen? ⟨w.heap.size + 1 + 1, 0, none⟩ = false := HRW.out.frozen 0
  have g0 : W.cell? ⟨w.heap.size + 1 + 1, 0, none⟩ = some (.slice none 0 0) := HRW.out.cell 0
  have r1 : W.frozen? ⟨w.heap.size + 1 + 1, 1, none⟩ = false := HRW.out.frozen 1
  have g1 : W.cell? ⟨w.heap.size + 1 + 1, 1, none⟩ = some (.slice none 0 0) := HRW.out.cell 1
  have r2 : W.frozen? ⟨w.heap.size + 1 + 1, 2, none⟩ = false := HRW.out.frozen 2
  have g2 : W.cell? ⟨w.heap.size + 1 + 1, 2, none⟩ = some (.slice none 0 0) := HRW.out.cell 2
  have r3 : W.frozen? ⟨w.heap.size + 1 + 1, 3, none⟩ = false := HRW.out.frozen 3
  have g3 : W.cell? ⟨w.heap.size + 1 + 1, 3, none⟩ = some (.slice none 0 0) := HRW.out.cell 3
  have r4 : W.frozen? ⟨w.heap.size + 1 + 1, 4, none⟩ = false := HRW.out.frozen 4
  have g4 : W.cell? ⟨w.heap.size + 1 + 1, 4, none⟩ = some (.slice none 0 0) := HRW.out.cell 4
  have r5 : W.frozen? ⟨w.heap.size + 1 + 1, 5, none⟩ = false := HRW.out.frozen 5
  have g5 : W.cell? ⟨w.heap.size + 1 + 1, 5, none⟩ = some (.slice none 0 0) := HRW.out.cell 5
  have r6 : W.frozen? ⟨w.heap.size + 1 + 1, 6, none⟩ = false := HRW.out.frozen 6
  have g6 : W.cell? ⟨w.heap.size + 1 + 1, 6, none⟩ = some (.slice none 0 0) := HRW.out.cell 6
  refine wp_region_held_drew (S := fun w' => Below w.heap.size w w' ∧ Blk w' w.heap.size 24 #[.slice A0 n0 c0, .slice A1 n1 c1, .slice A2 n2 c2, .slice A3 n3 c3, .slice A4 n4 c4, .slice A5 n5 c5, .slice A6 n6 c6]) (by kernel_rfl) ⟨HBW.out.drew, HKW.out⟩ (fun hHeld => ?_)
  refine held_take (i := 0) (fuel := 20) (v := ?_) (by rw [List.getElem?_toArray]; rfl) (by kernel_rfl) (by kernel_rfl) (by kernel_rfl) hHeld ?_ ?_ ?_ ?_
  rotate_left
  · intro u hSw
    go_simp
    try with_reducible rfl
  · rfl
  · exact fun _ _ _ h => h
  try simp only [Act.put, List.setIfInBounds_toArray, List.set_cons_zero, List.set_cons_succ]
  refine held_take (i := 1) (fuel := 19) (v := ?_) (by rw [List.getElem?_toArray]; rfl) (by kernel_rfl) (by kernel_rfl) (by kernel_rfl) hHeld ?_ ?_ ?_ ?_
  rotate_left
  · intro u hSw
    have y0 := hSw.2.cell 0
    have y1 := hSw.2.cell 1
    have y2 := hSw.2.cell 2
    have y3 := hSw.2.cell 3
    have y4 := hSw.2.cell 4
    have y5 := hSw.2.cell 5
    have y6 := hSw.2.cell 6
    go_simp
    try with_reducible rfl
  · rfl
  · exact fun _ _ _ h => h
  try simp only [Act.put, List.setIfInBounds_toArray, List.set_cons_zero, List.set_cons_succ]
  refine held_take (i := 2) (fuel := 18) (v := ?_) (by rw [List.getElem?_toArray]; rfl) (by kernel_rfl) (by kernel_rfl) (by kernel_rfl) hHeld ?_ ?_ ?_ ?_
  rotate_left
  · intro u hSw
    go_simp
    try with_reducible rfl
  · rfl
  · exact fun _ _ _ h => h
  try simp only [Act.put, List.setIfInBounds_toArray, List.set_cons_zero, List.set_cons_succ]
  refine held_take (i := 3) (fuel := 17) (v := ?_) (by rw [List.getElem?_toArray]; rfl) (by kernel_rfl) (by kernel_rfl) (by kernel_rfl) hHeld ?_ ?_ ?_ ?_
  rotate_left
  · intro u hSw
    have y0 := hSw.2.cell 0
    have y1 := hSw.2.cell 1
    have y2 := hSw.2.cell 2
    have y3 := hSw.2.cell 3
    have y4 := hSw.2.cell 4
    have y5 := hSw.2.cell 5
    have y6 := hSw.2.cell 6
    go_simp
    try with_reducible rfl
  · rfl
  · exact fun _ _ _ h => h
  try simp only [Act.put, List.setIfInBounds_toArray, List.set_cons_zero, List.set_cons_succ]
  refine held_take (i := 4) (fuel := 16) (v := ?_) (by rw [List.getElem?_toArray]; rfl) (by kernel_rfl) (by kernel_rfl) (by kernel_rfl) hHeld ?_ ?_ ?_ ?_
  rotate_left
  · intro u hSw
    go_simp
    try with_reducible rfl
  · rfl
  · exact fun _ _ _ h => h
  try simp only [Act.put, List.setIfInBounds_toArray, List.set_cons_zero, List.set_cons_succ]
  refine held_take (i := 5) (fuel := 15) (v := ?_) (by rw [List.getElem?_toArray]; rfl) (by kernel_rfl) (by kernel_rfl) (by kernel_rfl) hHeld ?_ ?_ ?_ ?_
  rotate_left
  · intro u hSw
    have y0 := hSw.2.cell 0
    have y1 := hSw.2.cell 1
    have y2 := hSw.2.cell 2
    have y3 := hSw.2.cell 3
    have y4 := hSw.2.cell 4
    have y5 := hSw.2.cell 5
    have y6 := hSw.2.cell 6
    go_simp
    try with_reducible rfl
  · rfl
  · exact fun _ _ _ h => h
  try simp only [Act.put, List.setIfInBounds_toArray, List.set_cons_zero, List.set_cons_succ]
  refine held_take (i := 6) (fuel := 14) (v := ?_) (by rw [List.getElem?_toArray]; rfl) (by kernel_rfl) (by kernel_rfl) (by kernel_rfl) hHeld ?_ ?_ ?_ ?_
  rotate_left
  · intro u hSw
    go_simp
    try with_reducible rfl
  · rfl
  · exact fun _ _ _ h => h
  try simp only [Act.put, List.setIfInBounds_toArray, List.set_cons_zero, List.set_cons_succ]
  refine held_take (i := 7) (fuel := 13) (v := ?_) (by rw [List.getElem?_toArray]; rfl) (by kernel_rfl) (by kernel_rfl) (by kernel_rfl) hHeld ?_ ?_ ?_ ?_
  rotate_left
  · intro u hSw
    have y0 := hSw.2.cell 0
    have y1 := hSw.2.cell 1
    have y2 := hSw.2.cell 2
    have y3 := hSw.2.cell 3
    have y4 := hSw.2.cell 4
    have y5 := hSw.2.cell 5
    have y6 := hSw.2.cell 6
    go_simp
    try with_reducible rfl
  · rfl
  · exact fun _ _ _ h => h
  try simp only [Act.put, List.setIfInBounds_toArray, List.set_cons_zero, List.set_cons_succ]
  refine held_take (i := 8) (fuel := 12) (v := ?_) (by rw [List.getElem?_toArray]; rfl) (by kernel_rfl) (by kernel_rfl) (by kernel_rfl) hHeld ?_ ?_ ?_ ?_
  rotate_left
  · intro u hSw
    go_simp
    try with_reducible rfl
  · rfl
  · exact fun _ _ _ h => h
  try simp only [Act.put, List.setIfInBounds_toArray, List.set_cons_zero, List.set_cons_succ]
  refine held_take (i := 9) (fuel := 11) (v := ?_) (by rw [List.getElem?_toArray]; rfl) (by kernel_rfl) (by kernel_rfl) (by kernel_rfl) hHeld ?_ ?_ ?_ ?_
  rotate_left
  · intro u hSw
    have y0 := hSw.2.cell 0
    have y1 := hSw.2.cell 1
    have y2 := hSw.2.cell 2
    have y3 := hSw.2.cell 3
    have y4 := hSw.2.cell 4
    have y5 := hSw.2.cell 5
    have y6 := hSw.2.cell 6
    go_simp
    try with_reducible rfl
  · rfl
  · exact fun _ _ _ h => h
  try simp only [Act.put, List.setIfInBounds_toArray, List.set_cons_zero, List.set_cons_succ]
  refine held_take (i := 10) (fuel := 10) (v := ?_) (by rw [List.getElem?_toArray]; rfl) (by kernel_rfl) (by kernel_rfl) (by kernel_rfl) hHeld ?_ ?_ ?_ ?_
  rotate_left
  · intro u hSw
    go_simp
    try with_reducible rfl
  · rfl
  · exact fun _ _ _ h => h
  try simp only [Act.put, List.setIfInBounds_toArray, List.set_cons_zero, List.set_cons_succ]
  refine held_take (i := 11) (fuel := 9) (v := ?_) (by rw [List.getElem?_toArray]; rfl) (by kernel_rfl) (by kernel_rfl) (by kernel_rfl) hHeld ?_ ?_ ?_ ?_
  rotate_left
  · intro u hSw
    have y0 := hSw.2.cell 0
    have y1 := hSw.2.cell 1
    have y2 := hSw.2.cell 2
    have y3 := hSw.2.cell 3
    have y4 := hSw.2.cell 4
    have y5 := hSw.2.cell 5
    have y6 := hSw.2.cell 6
    go_simp
    try with_reducible rfl
  · rfl
  · exact fun _ _ _ h => h
  try simp only [Act.put, List.setIfInBounds_toArray, List.set_cons_zero, List.set_cons_succ]
  refine held_take (i := 12) (fuel := 8) (v := ?_) (by rw [List.getElem?_toArray]; rfl) (by kernel_rfl) (by kernel_rfl) (by kernel_rfl) hHeld ?_ ?_ ?_ ?_
  rotate_left
  · intro u hSw
    go_simp
    try with_reducible rfl
  · rfl
  · exact fun _ _ _ h => h
  try simp only [Act.put, List.setIfInBounds_toArray, List.set_cons_zero, List.set_cons_succ]
  refine held_take (i := 13) (fuel := 7) (v := ?_) (by rw [List.getElem?_toArray]; rfl) (by kernel_rfl) (by kernel_rfl) (by kernel_rfl) hHeld ?_ ?_ ?_ ?_
  rotate_left
  · intro u hSw
    go_simp
    try with_reducible rfl
  · rfl
  · exact fun _ _ _ h => h
  try simp only [Act.put, List.setIfInBounds_toArray, List.set_cons_zero, List.set_cons_succ]
  refine held_take (i := 14) (fuel := 6) (v := ?_) (by rw [List.getElem?_toArray]; rfl) (by kernel_rfl) (by kernel_rfl) (by kernel_rfl) hHeld ?_ ?_ ?_ ?_
  rotate_left
  · intro u hSw
    have y0 := hSw.2.cell 0
    have y1 := hSw.2.cell 1
    have y2 := hSw.2.cell 2
    have y3 := hSw.2.cell 3
    have y4 := hSw.2.cell 4
    have y5 := hSw.2.cell 5
    have y6 := hSw.2.cell 6
    go_simp
    try with_reducible rfl
  · rfl
  · exact fun _ _ _ h => h
  try simp only [Act.put, List.setIfInBounds_toArray, List.set_cons_zero, List.set_cons_succ]
  refine held_take (i := 15) (fuel := 5) (v := ?_) (by rw [List.getElem?_toArray]; rfl) (by kernel_rfl) (by kernel_rfl) (by kernel_rfl) hHeld ?_ ?_ ?_ ?_
  rotate_left
  · intro u hSw
    go_simp
    try with_reducible rfl
  · rfl
  · exact fun _ _ _ h => h
  try simp only [Act.put, List.setIfInBounds_toArray, List.set_cons_zero, List.set_cons_succ]
  refine held_take (i := 16) (fuel := 4) (v := ?_) (by rw [List.getElem?_toArray]; rfl) (by kernel_rfl) (by kernel_rfl) (by kernel_rfl) hHeld ?_ ?_ ?_ ?_
  rotate_left
  · intro u hSw
    go_simp
    try with_reducible rfl
  · rfl
  · exact fun _ _ _ h => h
  try simp only [Act.put, List.setIfInBounds_toArray, List.set_cons_zero, List.set_cons_succ]
  refine held_take (i := 17) (fuel := 3) (v := ?_) (by rw [List.getElem?_toArray]; rfl) (by kernel_rfl) (by kernel_rfl) (by kernel_rfl) hHeld ?_ ?_ ?_ ?_
  rotate_left
  · intro u hSw
    go_simp
    try with_reducible rfl
  · rfl
  · exact fun _ _ _ h => h
  try simp only [Act.put, List.setIfInBounds_toArray, List.set_cons_zero, List.set_cons_succ]
  refine held_take (i := 18) (fuel := 2) (v := ?_) (by rw [List.getElem?_toArray]; rfl) (by kernel_rfl) (by kernel_rfl) (by kernel_rfl) hHeld ?_ ?_ ?_ ?_
  rotate_left
  · intro u hSw
    go_simp
    try with_reducible rfl
  · rfl
  · exact fun _ _ _ h => h
  try simp only [Act.put, List.setIfInBounds_toArray, List.set_cons_zero, List.set_cons_succ]
  refine held_take (i := 19) (fuel := 1) (v := ?_) (by rw [List.getElem?_toArray]; rfl) (by kernel_rfl) (by kernel_rfl) (by kernel_rfl) hHeld ?_ ?_ ?_ ?_
  rotate_left
  · intro u hSw
    go_simp
    try with_reducible rfl
  · rfl
  · exact fun _ _ _ h => h
  try simp only [Act.put, List.setIfInBounds_toArray, List.set_cons_zero, List.set_cons_succ]
  refine held_one (i := 20) (fuel := 0) (by kernel_rfl) (by rw [List.getElem?_toArray]; rfl) (fun K hK => ?_)
  go_simp
  refine hK.out _ _ ?_ (fun hHeld => ?_)
  · exact ⟨((Below.setCell (p := ⟨w.heap.size + 1 + 1, 6, none⟩) (Below.setCell (p := ⟨w.heap.size + 1 + 1, 5, none⟩) (Below.setCell (p := ⟨w.heap.size + 1 + 1, 4, none⟩) (Below.setCell (p := ⟨w.heap.size + 1 + 1, 3, none⟩) (Below.setCell (p := ⟨w.heap.size + 1 + 1, 2, none⟩) (Below.setCell (p := ⟨w.heap.size + 1 + 1, 1, none⟩) (Below.setCell (p := ⟨w.heap.size + 1 + 1, 0, none⟩) HBW.out (show w.heap.size ≤ w.heap.size + 1 + 1 by omega) (.slice A0 n0 c0)) (show w.heap.size ≤ w.heap.size + 1 + 1 by omega) (.slice A1 n1 c1)) (show w.heap.size ≤ w.heap.size + 1 + 1 by omega) (.slice A2 n2 c2)) (show w.heap.size ≤ w.heap.size + 1 + 1 by omega) (.slice A3 n3 c3)) (show w.heap.size ≤ w.heap.size + 1 + 1 by omega) (.slice A4 m c4)) (show w.heap.size ≤ w.heap.size + 1 + 1 by omega) (.slice none 0 0)) (show w.heap.size ≤ w.heap.size + 1 + 1 by omega) (.slice none 0 0))).drew, Blk_drew (Blk.far (p := ⟨w.heap.size + 1 + 1, 6, none⟩) (Blk.far (p := ⟨w.heap.size + 1 + 1, 5, none⟩) (Blk.far (p := ⟨w.heap.size + 1 + 1, 4, none⟩) (Blk.far (p := ⟨w.heap.size + 1 + 1, 3, none⟩) (Blk.far (p := ⟨w.heap.size + 1 + 1, 2, none⟩) (Blk.far (p := ⟨w.heap.size + 1 + 1, 1, none⟩) (Blk.far (p := ⟨w.heap.size + 1 + 1, 0, none⟩) HKW.out (show w.heap.size ≠ w.heap.size + 1 + 1 by omega) (.slice A0 n0 c0)) (show w.heap.size ≠ w.heap.size + 1 + 1 by omega) (.slice A1 n1 c1)) (show w.heap.size ≠ w.heap.size + 1 + 1 by omega) (.slice A2 n2 c2)) (show w.heap.size ≠ w.heap.size + 1 + 1 by omega) (.slice A3 n3 c3)) (show w.heap.size ≠ w.heap.size + 1 + 1 by omega) (.slice A4 m c4)) (show w.heap.size ≠ w.heap.size + 1 + 1 by omega) (.slice none 0 0)) (show w.heap.size ≠ w.heap.size + 1 + 1 by omega) (.slice none 0 0))⟩
  clear hK K
  try simp only [Act.put, List.setIfInBounds_toArray, List.set_cons_zero, List.set_cons_succ]
  have HY : Hid (Blk (((((((W.setCell ⟨w.heap.size + 1 + 1, 0, none⟩ (.slice A0 n0 c0)).setCell ⟨w.heap.size + 1 + 1, 1, none⟩ (.slice A1 n1 c1)).setCell ⟨w.heap.size + 1 + 1, 2, none⟩ (.slice A2 n2 c2)).setCell ⟨w.heap.size + 1 + 1, 3, none⟩ (.slice A3 n3 c3)).setCell ⟨w.heap.size + 1 + 1, 4, none⟩ (.slice A4 m c4)).setCell ⟨w.heap.size + 1 + 1, 5, none⟩ (.slice none 0 0)).setCell ⟨w.heap.size + 1 + 1, 6, none⟩ (.slice none 0 0)).drew (w.heap.size + 1 + 1) 24 #[.slice A0 n0 c0, .slice A1 n1 c1, .slice A2 n2 c2, .slice A3 n3 c3, .slice A4 m c4, .slice none 0 0, .slice none 0 0]) := Lib.hid (Blk_drew (((((((HRW.out.set_ 0 (.slice A0 n0 c0)).set_ 1 (.slice A1 n1 c1)).set_ 2 (.slice A2 n2 c2)).set_ 3 (.slice A3 n3 c3)).set_ 4 (.slice A4 m c4)).set_ 5 (.slice none 0 0)).set_ 6 (.slice none 0 0)))
  refine wpAnyH_done (by kernel_rfl) ?_ _
  have HBE := Lib.hid hHeld.1
  clear hHeld
  (try simp only [Exit.inBlock, Exit.then, Exit.inSwitch]); go_wp2_with fail
  (try simp only [Exit.inBlock, Exit.then]); refine bodyPost_ret (results_tc rfl _ _ _ _ _ _ _ rfl HY.out Tryd.underlying24 rfl (by kernel_rfl)) rfl ?_
  have hr := H.out.below (HBE.out.mono hB)
  refine ⟨A4, n4, c4, ⟨A0, n0, c0, A1, n1, c1, A2, n2, c2, A3, n3, c3, A4, m, c4, none, 0, 0, none, 0, 0⟩, rfl, ?_, ?_, ?_, HBE.out⟩
  · exact hr.ve
  · exact ⟨hr.fl, hr.pr, hr.gl, hr.ob, hr.ve.front15 HM.out, RdS.nil _ _ _, RdS.nil _ _ _⟩
  · have hcn := HCN.out
    have hm := HM.out
    show n0 + n1 + n2 + n3 + m + 0 + 0 ≤ 50000
    omega

set_option maxRecDepth 100000 in
set_option maxHeartbeats 12800000 in
theorem ahead_8 (X : Dcl) (w : World) (B : Nat) (hB : B ≤ w.heap.size) (d : Dl) (h : X.Rd w B d) (hcap : X.n5 ≤ X.c5) (hn : cntD d ≤ 50000) (er : Int) (s : ByteArray) (m : Nat) (hm : m < X.n5) :
    Calls Tryd.prog 23 #[dclV X, .agg #[.int .i64 er, .int .i64 8, .int .i64 (m : Int), .string s]] w (OutA B w (aheadD d 8 m)) := by
  have hcnt := h.cnt
  obtain ⟨A0, n0, c0, A1, n1, c1, A2, n2, c2, A3, n3, c3, A4, n4, c4, A5, n5, c5, A6, n6, c6⟩ := X
  simp only at hcnt hcap hm
  have HCN : Hid (n0 + n1 + n2 + n3 + n4 + n5 + n6 ≤ 50000) := Lib.hid (by omega)
  have hs5 : n5 ≤ 50000 := by omega
  have H := Lib.hid h
  have HM : Hid (m ≤ n5) := Lib.hid (by omega)
  have hkc : m ≤ c5 := by omega
  have hmi : (m : Int) < (n5 : Int) := by omega
  have hmn : ¬ (n5 : Int) < (m : Int) := by omega
  have hml : (m : Int) ≤ (n5 : Int) := by omega
  have hnn : ¬ n5 < m := by omega
  have hm0 : (0 : Int) ≤ (m : Int) ∧ (m : Int) ≤ (c5 : Int) := by omega
  have hmin : min (m : Int) (n5 : Int) = (m : Int) := by omega
  clear h hcnt hn
  show Calls Tryd.prog _ #[.agg #[.slice A0 n0 c0, .slice A1 n1 c1, .slice A2 n2 c2, .slice A3 n3 c3, .slice A4 n4 c4, .slice A5 n5 c5, .slice A6 n6 c6], .agg #[.int .i64 er, .int .i64 8, .int .i64 (m : Int), .string s]] w _
  obtain ⟨W, hW⟩ : ∃ W, W = ((w.alloc (.cells #[.slice A0 n0 c0, .slice A1 n1 c1, .slice A2 n2 c2, .slice A3 n3 c3, .slice A4 n4 c4, .slice A5 n5 c5, .slice A6 n6 c6] 24)).alloc (.cells #[.int .i64 er, .int .i64 8, .int .i64 (m : Int), .string s] 30)).alloc (.cells #[.slice none 0 0, .slice none 0 0, .slice none 0 0, .slice none 0 0, .slice none 0 0, .slice none 0 0, .slice none 0 0] 24) := ⟨_, rfl⟩
  have HBW : Hid (Below w.heap.size w W) := Lib.hid (by rw [hW]; exact (((Below.refl _ _).alloc (Nat.le_refl _) _).alloc (by simp) _).alloc (by simp; omega) _)
  have HKW : Hid (Blk W w.heap.size 24 #[.slice A0 n0 c0, .slice A1 n1 c1, .slice A2 n2 c2, .slice A3 n3 c3, .slice A4 n4 c4, .slice A5 n5 c5, .slice A6 n6 c6]) := Lib.hid (by rw [hW]; exact ((Blk.new _ _ _).alloc _).alloc _)
  have HFW : Hid (Blk W (w.heap.size + 1) 30 #[.int .i64 er, .int .i64 8, .int .i64 (m : Int), .string s]) := Lib.hid (by rw [hW]; exact (Blk.new_at _ _ _ _ (by simp)).alloc _)
  have HRW : Hid (Blk W (w.heap.size + 1 + 1) 24 #[.slice none 0 0, .slice none 0 0, .slice none 0 0, .slice none 0 0, .slice none 0 0, .slice none 0 0, .slice none 0 0]) := Lib.hid (by rw [hW]; exact Blk.new_at _ _ _ _ (by simp))
  have f1 : W.cell? ⟨w.heap.size + 1, 1, none⟩ = some (.int .i64 8) := HFW.out.cell 1
  have f2 : W.cell? ⟨w.heap.size + 1, 2, none⟩ = some (.int .i64 (m : Int)) := HFW.out.cell 2
  clear HFW
  go_enter Tryd.func23, Tryd.ntmps23
  go_wp2_with fail
  rw [← hW]
  clear hW
  go_wp2_with fail
  have r0 : W.frozen? ⟨w.heap.size + 1 + 1, 0, none⟩ = false := HRW.out.frozen 0
  have g0 : W.cell? ⟨w.heap.size + 1 + 1, 0, none⟩ = some (.slice none 0 0) := HRW.out.cell 0
  have r1 : W.frozen? ⟨w.heap.size + 1 + 1, 1, none⟩ = false := HRW.out.frozen 1
  have g1 : W.cell? ⟨w.heap.size + 1 + 1, 1, none⟩ = some (.slice none 0 0) := HRW.out.cell 1
  have r2 : W.frozen? ⟨w.heap.size + 1 + 1, 2, none⟩ = false := HRW.out.frozen 2
  have g2 : W.cell? ⟨w.heap.size + 1 + 1, 2, none⟩ = some (.slice none 0 0) := HRW.out.cell 2
  have r3 : W.frozen? ⟨w.heap.size + 1 + 1, 3, none⟩ = false := HRW.out.frozen 3
  have g3 : W.cell? ⟨w.heap.size + 1 + 1, 3, none⟩ = some (.slice none 0 0) := HRW.out.cell 3
  have r4 : W.frozen? ⟨w.heap.size + 1 + 1, 4, none⟩ = false := HRW.out.frozen 4
  have g4 : W.cell? ⟨w.heap.size + 1 + 1, 4, none⟩ = some (.slice none 0 0) := HRW.out.cell 4
  have r5 : W.frozen? ⟨w.heap.size + 1 + 1, 5, none⟩ = false := HRW.out.frozen 5
  have g5 : W.cell? ⟨w.heap.size + 1 + 1, 5, none⟩ = some (.slice none 0 0) := HRW.out.cell 5
  have r6 : W.frozen? ⟨w.heap.size + 1 + 1, 6, none⟩ = false := HRW.out.frozen 6
  have g6 : W.cell? ⟨w.heap.size + 1 + 1, 6, none⟩ = some (.slice none 0 0) := HRW.out.cell 6
  refine wp_region_held_drew (S := fun w' => Below w.heap.size w w' ∧ Blk w' w.heap.size 24 #[.slice A0 n0 c0, .slice A1 n1 c1, .slice A2 n2 c2, .slice A3 n3 c3, .slice A4 n4 c4, .slice A5 n5 c5, .slice A6 n6 c6]) (by kernel_rfl) ⟨HBW.out.drew, HKW.out⟩ (fun hHeld => ?_)
  refine held_take (i := 0) (fuel := 22) (v := ?_) (by rw [List.getElem?_toArray]; rfl) (by kernel_rfl) (by kernel_rfl) (by kernel_rfl) hHeld ?_ ?_ ?_ ?_
  rotate_left
  · intro u hSw
    go_simp
    try with_reducible rfl
  · rfl
  · exact fun _ _ _ h => h
  try simp only [Act.put, List.setIfInBounds_toArray, List.set_cons_zero, List.set_cons_succ]
  refine held_take (i := 1) (fuel := 21) (v := ?_) (by rw [List.getElem?_toArray]; rfl) (by kernel_rfl) (by kernel_rfl) (by kernel_rfl) hHeld ?_ ?_ ?_ ?_
  rotate_left
  · intro u hSw
    have y0 := hSw.2.cell 0
    have y1 := hSw.2.cell 1
    have y2 := hSw.2.cell 2
    have y3 := hSw.2.cell 3
    have y4 := hSw.2.cell 4
    have y5 := hSw.2.cell 5
    have y6 := hSw.2.cell 6
    go_simp
    try with_reducible rfl
  · rfl
  · exact fun _ _ _ h => h
  try simp only [Act.put, List.setIfInBounds_toArray, List.set_cons_zero, List.set_cons_succ]
  refine held_take (i := 2) (fuel := 20) (v := ?_) (by rw [List.getElem?_toArray]; rfl) (by kernel_rfl) (by kernel_rfl) (by kernel_rfl) hHeld ?_ ?_ ?_ ?_
  rotate_left
  · intro u hSw
    go_simp
    try with_reducible rfl
  · rfl
  · exact fun _ _ _ h => h
  try simp only [Act.put, List.setIfInBounds_toArray, List.set_cons_zero, List.set_cons_succ]
  refine held_take (i := 3) (fuel := 19) (v := ?_) (by rw [List.getElem?_toArray]; rfl) (by kernel_rfl) (by kernel_rfl) (by kernel_rfl) hHeld ?_ ?_ ?_ ?_
  rotate_left
  · intro u hSw
    have y0 := hSw.2.cell 0
    have y1 := hSw.2.cell 1
    have y2 := hSw.2.cell 2
    have y3 := hSw.2.cell 3
    have y4 := hSw.2.cell 4
    have y5 := hSw.2.cell 5
    have y6 := hSw.2.cell 6
    go_simp
    try with_reducible rfl
  · rfl
  · exact fun _ _ _ h => h
  try simp only [Act.put, List.setIfInBounds_toArray, List.set_cons_zero, List.set_cons_succ]
  refine held_take (i := 4) (fuel := 18) (v := ?_) (by rw [List.getElem?_toArray]; rfl) (by kernel_rfl) (by kernel_rfl) (by kernel_rfl) hHeld ?_ ?_ ?_ ?_
  rotate_left
  · intro u hSw
    go_simp
    try with_reducible rfl
  · rfl
  · exact fun _ _ _ h => h
  try simp only [Act.put, List.setIfInBounds_toArray, List.set_cons_zero, List.set_cons_succ]
  refine held_take (i := 5) (fuel := 17) (v := ?_) (by rw [List.getElem?_toArray]; rfl) (by kernel_rfl) (by kernel_rfl) (by kernel_rfl) hHeld ?_ ?_ ?_ ?_
  rotate_left
  · intro u hSw
    have y0 := hSw.2.cell 0
    have y1 := hSw.2.cell 1
    have y2 := hSw.2.cell 2
    have y3 := hSw.2.cell 3
    have y4 := hSw.2.cell 4
    have y5 := hSw.2.cell 5
    have y6 := hSw.2.cell 6
    go_simp
    try with_reducible rfl
  · rfl
  · exact fun _ _ _ h => h
  try simp only [Act.put, List.setIfInBounds_toArray, List.set_cons_zero, List.set_cons_succ]
  refine held_take (i := 6) (fuel := 16) (v := ?_) (by rw [List.getElem?_toArray]; rfl) (by kernel_rfl) (by kernel_rfl) (by kernel_rfl) hHeld ?_ ?_ ?_ ?_
  rotate_left
  · intro u hSw
    go_simp
    try with_reducible rfl
  · rfl
  · exact fun _ _ _ h => h
  try simp only [Act.put, List.setIfInBounds_toArray, List.set_cons_zero, List.set_cons_succ]
  refine held_take (i := 7) (fuel := 15) (v := ?_) (by rw [List.getElem?_toArray]; rfl) (by kernel_rfl) (by kernel_rfl) (by kernel_rfl) hHeld ?_ ?_ ?_ ?_
  rotate_left
  · intro u hSw
    have y0 := hSw.2.cell 0
    have y1 := hSw.2.cell 1
    have y2 := hSw.2.cell 2
    have y3 := hSw.2.cell 3
    have y4 := hSw.2.cell 4
    have y5 := hSw.2.cell 5
    have y6 := hSw.2.cell 6
    go_simp
    try with_reducible rfl
  · rfl
  · exact fun _ _ _ h => h
  try simp only [Act.put, List.setIfInBounds_toArray, List.set_cons_zero, List.set_cons_succ]
  refine held_take (i := 8) (fuel := 14) (v := ?_) (by rw [List.getElem?_toArray]; rfl) (by kernel_rfl) (by kernel_rfl) (by kernel_rfl) hHeld ?_ ?_ ?_ ?_
  rotate_left
  · intro u hSw
    go_simp
    try with_reducible rfl
  · rfl
  · exact fun _ _ _ h => h
  try simp only [Act.put, List.setIfInBounds_toArray, List.set_cons_zero, List.set_cons_succ]
  refine held_take (i := 9) (fuel := 13) (v := ?_) (by rw [List.getElem?_toArray]; rfl) (by kernel_rfl) (by kernel_rfl) (by kernel_rfl) hHeld ?_ ?_ ?_ ?_
  rotate_left
  · intro u hSw
    have y0 := hSw.2.cell 0
    have y1 := hSw.2.cell 1
    have y2 := hSw.2.cell 2
    have y3 := hSw.2.cell 3
    have y4 := hSw.2.cell 4
    have y5 := hSw.2.cell 5
    have y6 := hSw.2.cell 6
    go_simp
    try with_reducible rfl
  · rfl
  · exact fun _ _ _ h => h
  try simp only [Act.put, List.setIfInBounds_toArray, List.set_cons_zero, List.set_cons_succ]
  refine held_take (i := 10) (fuel := 12) (v := ?_) (by rw [List.getElem?_toArray]; rfl) (by kernel_rfl) (by kernel_rfl) (by kernel_rfl) hHeld ?_ ?_ ?_ ?_
  rotate_left
  · intro u hSw
    go_simp
    try with_reducible rfl
  · rfl
  · exact fun _ _ _ h => h
  try simp only [Act.put, List.setIfInBounds_toArray, List.set_cons_zero, List.set_cons_succ]
  refine held_take (i := 11) (fuel := 11) (v := ?_) (by rw [List.getElem?_toArray]; rfl) (by kernel_rfl) (by kernel_rfl) (by kernel_rfl) hHeld ?_ ?_ ?_ ?_
  rotate_left
  · intro u hSw
    have y0 := hSw.2.cell 0
    have y1 := hSw.2.cell 1
    have y2 := hSw.2.cell 2
    have y3 := hSw.2.cell 3
    have y4 := hSw.2.cell 4
    have y5 := hSw.2.cell 5
    have y6 := hSw.2.cell 6
    go_simp
    try with_reducible rfl
  · rfl
  · exact fun _ _ _ h => h
  try simp only [Act.put, List.setIfInBounds_toArray, List.set_cons_zero, List.set_cons_succ]
  refine held_take (i := 12) (fuel := 10) (v := ?_) (by rw [List.getElem?_toArray]; rfl) (by kernel_rfl) (by kernel_rfl) (by kernel_rfl) hHeld ?_ ?_ ?_ ?_
  rotate_left
  · intro u hSw
    go_simp
    try with_reducible rfl
  · rfl
  · exact fun _ _ _ h => h
  try simp only [Act.put, List.setIfInBounds_toArray, List.set_cons_zero, List.set_cons_succ]
  refine held_take (i := 13) (fuel := 9) (v := ?_) (by rw [List.getElem?_toArray]; rfl) (by kernel_rfl) (by kernel_rfl) (by kernel_rfl) hHeld ?_ ?_ ?_ ?_
  rotate_left
  · intro u hSw
    have y0 := hSw.2.cell 0
    have y1 := hSw.2.cell 1
    have y2 := hSw.2.cell 2
    have y3 := hSw.2.cell 3
    have y4 := hSw.2.cell 4
    have y5 := hSw.2.cell 5
    have y6 := hSw.2.cell 6
    go_simp
    try with_reducible rfl
  · rfl
  · exact fun _ _ _ h => h
  try simp only [Act.put, List.setIfInBounds_toArray, List.set_cons_zero, List.set_cons_succ]
  refine held_take (i := 14) (fuel := 8) (v := ?_) (by rw [List.getElem?_toArray]; rfl) (by kernel_rfl) (by kernel_rfl) (by kernel_rfl) hHeld ?_ ?_ ?_ ?_
  rotate_left
  · intro u hSw
    go_simp
    try with_reducible rfl
  · rfl
  · exact fun _ _ _ h => h
  try simp only [Act.put, List.setIfInBounds_toArray, List.set_cons_zero, List.set_cons_succ]
  refine held_take (i := 15) (fuel := 7) (v := ?_) (by rw [List.getElem?_toArray]; rfl) (by kernel_rfl) (by kernel_rfl) (by kernel_rfl) hHeld ?_ ?_ ?_ ?_
  rotate_left
  · intro u hSw
    go_simp
    try with_reducible rfl
  · rfl
  · exact fun _ _ _ h => h
  try simp only [Act.put, List.setIfInBounds_toArray, List.set_cons_zero, List.set_cons_succ]
  refine held_take (i := 16) (fuel := 6) (v := ?_) (by rw [List.getElem?_toArray]; rfl) (by kernel_rfl) (by kernel_rfl) (by kernel_rfl) hHeld ?_ ?_ ?_ ?_
  rotate_left
  · intro u hSw
    have y0 := hSw.2.cell 0
    have y1 := hSw.2.cell 1
    have y2 := hSw.2.cell 2
    have y3 := hSw.2.cell 3
    have y4 := hSw.2.cell 4
    have y5 := hSw.2.cell 5
    have y6 := hSw.2.cell 6
    go_simp
    try with_reducible rfl
  · rfl
  · exact fun _ _ _ h => h
  try simp only [Act.put, List.setIfInBounds_toArray, List.set_cons_zero, List.set_cons_succ]
  refine held_take (i := 17) (fuel := 5) (v := ?_) (by rw [List.getElem?_toArray]; rfl) (by kernel_rfl) (by kernel_rfl) (by kernel_rfl) hHeld ?_ ?_ ?_ ?_
  rotate_left
  · intro u hSw
    go_simp
    try with_reducible rfl
  · rfl
  · exact fun _ _ _ h => h
  try simp only [Act.put, List.setIfInBounds_toArray, List.set_cons_zero, List.set_cons_succ]
  refine held_take (i := 18) (fuel := 4) (v := ?_) (by rw [List.getElem?_toArray]; rfl) (by kernel_rfl) (by kernel_rfl) (by kernel_rfl) hHeld ?_ ?_ ?_ ?_
  rotate_left
  · intro u hSw
    go_simp
    try with_reducible rfl
  · rfl
  · exact fun _ _ _ h => h
  try simp only [Act.put, List.setIfInBounds_toArray, List.set_cons_zero, List.set_cons_succ]
  refine held_take (i := 19) (fuel := 3) (v := ?_) (by rw [List.getElem?_toArray]; rfl) (by kernel_rfl) (by kernel_rfl) (by kernel_rfl) hHeld ?_ ?_ ?_ ?_
  rotate_left
  · intro u hSw
    go_simp
    try with_reducible rfl
  · rfl
  · exact fun _ _ _ h => h
  try simp only [Act.put, List.setIfInBounds_toArray, List.set_cons_zero, List.set_cons_succ]
  refine held_take (i := 20) (fuel := 2) (v := ?_) (by rw [List.getElem?_toArray]; rfl) (by kernel_rfl) (by kernel_rfl) (by kernel_rfl) hHeld ?_ ?_ ?_ ?_
  rotate_left
  · intro u hSw
    go_simp
    try with_reducible rfl
  · rfl
  · exact fun _ _ _ h => h
  try simp only [Act.put, List.setIfInBounds_toArray, List.set_cons_zero, List.set_cons_succ]
  refine held_take (i := 21) (fuel := 1) (v := ?_) (by rw [List.getElem?_toArray]; rfl) (by kernel_rfl) (by kernel_rfl) (by kernel_rfl) hHeld ?_ ?_ ?_ ?_
  rotate_left
  · intro u hSw
    go_simp
    try with_reducible rfl
  · rfl
  · exact fun _ _ _ h => h
  try simp only [Act.put, List.setIfInBounds_toArray, List.set_cons_zero, List.set_cons_succ]
  refine held_one (i := 22) (fuel := 0) (by kernel_rfl) (by rw [List.getElem?_toArray]; rfl) (fun K hK => ?_)
  go_simp
  refine hK.out _ _ ?_ (fun hHeld => ?_)
  · exact ⟨((Below.setCell (p := ⟨w.heap.size + 1 + 1, 6, none⟩) (Below.setCell (p := ⟨w.heap.size + 1 + 1, 5, none⟩) (Below.setCell (p := ⟨w.heap.size + 1 + 1, 4, none⟩) (Below.setCell (p := ⟨w.heap.size + 1 + 1, 3, none⟩) (Below.setCell (p := ⟨w.heap.size + 1 + 1, 2, none⟩) (Below.setCell (p := ⟨w.heap.size + 1 + 1, 1, none⟩) (Below.setCell (p := ⟨w.heap.size + 1 + 1, 0, none⟩) HBW.out (show w.heap.size ≤ w.heap.size + 1 + 1 by omega) (.slice A0 n0 c0)) (show w.heap.size ≤ w.heap.size + 1 + 1 by omega) (.slice A1 n1 c1)) (show w.heap.size ≤ w.heap.size + 1 + 1 by omega) (.slice A2 n2 c2)) (show w.heap.size ≤ w.heap.size + 1 + 1 by omega) (.slice A3 n3 c3)) (show w.heap.size ≤ w.heap.size + 1 + 1 by omega) (.slice A4 n4 c4)) (show w.heap.size ≤ w.heap.size + 1 + 1 by omega) (.slice A5 m c5)) (show w.heap.size ≤ w.heap.size + 1 + 1 by omega) (.slice none 0 0))).drew, Blk_drew (Blk.far (p := ⟨w.heap.size + 1 + 1, 6, none⟩) (Blk.far (p := ⟨w.heap.size + 1 + 1, 5, none⟩) (Blk.far (p := ⟨w.heap.size + 1 + 1, 4, none⟩) (Blk.far (p := ⟨w.heap.size + 1 + 1, 3, none⟩) (Blk.far (p := ⟨w.heap.size + 1 + 1, 2, none⟩) (Blk.far (p := ⟨w.heap.size + 1 + 1, 1, none⟩) (Blk.far (p := ⟨w.heap.size + 1 + 1, 0, none⟩) HKW.out (show w.heap.size ≠ w.heap.size + 1 + 1 by omega) (.slice A0 n0 c0)) (show w.heap.size ≠ w.heap.size + 1 + 1 by omega) (.slice A1 n1 c1)) (show w.heap.size ≠ w.heap.size + 1 + 1 by omega) (.slice A2 n2 c2)) (show w.heap.size ≠ w.heap.size + 1 + 1 by omega) (.slice A3 n3 c3)) (show w.heap.size ≠ w.heap.size + 1 + 1 by omega) (.slice A4 n4 c4)) (show w.heap.size ≠ w.heap.size + 1 + 1 by omega) (.slice A5 m c5)) (show w.heap.size ≠ w.heap.size + 1 + 1 by omega) (.slice none 0 0))⟩
  clear hK K
  try simp only [Act.put, List.setIfInBounds_toArray, List.set_cons_zero, List.set_cons_succ]
  have HY : Hid (Blk (((((((W.setCell ⟨w.heap.size + 1 + 1, 0, none⟩ (.slice A0 n0 c0)).setCell ⟨w.heap.size + 1 + 1, 1, none⟩ (.slice A1 n1 c1)).setCell ⟨w.heap.size + 1 + 1, 2, none⟩ (.slice A2 n2 c2)).setCell ⟨w.heap.size + 1 + 1, 3, none⟩ (.slice A3 n3 c3)).setCell ⟨w.heap.size + 1 + 1, 4, none⟩ (.slice A4 n4 c4)).setCell ⟨w.heap.size + 1 + 1, 5, none⟩ (.slice A5 m c5)).setCell ⟨w.heap.size + 1 + 1, 6, none⟩ (.slice none 0 0)).drew (w.heap.size + 1 + 1) 24 #[.slice A0 n0 c0, .slice A1 n1 c1, .slice A2 n2 c2, .slice A3 n3 c3, .slice A4 n4 c4, .slice A5 m c5, .slice none 0 0]) := Lib.hid (Blk_drew (((((((HRW.out.set_ 0 (.slice A0 n0 c0)).set_ 1 (.slice A1 n1 c1)).set_ 2 (.slice A2 n2 c2)).set_ 3 (.slice A3 n3 c3)).set_ 4 (.slice A4 n4 c4)).set_ 5 (.slice A5 m c5)).set_ 6 (.slice none 0 0)))
  refine wpAnyH_done (by kernel_rfl) ?_ _
  have HBE := Lib.hid hHeld.1
  clear hHeld
  (try simp only [Exit.inBlock, Exit.then, Exit.inSwitch]); go_wp2_with fail
  (try simp only [Exit.inBlock, Exit.then]); refine bodyPost_ret (results_tc rfl _ _ _ _ _ _ _ rfl HY.out Tryd.underlying24 rfl (by kernel_rfl)) rfl ?_
  have hr := H.out.below (HBE.out.mono hB)
  refine ⟨A5, n5, c5, ⟨A0, n0, c0, A1, n1, c1, A2, n2, c2, A3, n3, c3, A4, n4, c4, A5, m, c5, none, 0, 0⟩, rfl, ?_, ?_, ?_, HBE.out⟩
  · exact hr.fu
  · exact ⟨hr.fl, hr.pr, hr.gl, hr.ob, hr.ve, hr.fu.front15 HM.out, RdS.nil _ _ _⟩
  · have hcn := HCN.out
    have hm := HM.out
    show n0 + n1 + n2 + n3 + n4 + m + 0 ≤ 50000
    omega

set_option maxRecDepth 100000 in
set_option maxHeartbeats 12800000 in
theorem ahead_9 (X : Dcl) (w : World) (B : Nat) (hB : B ≤ w.heap.size) (d : Dl) (h : X.Rd w B d) (hcap : X.n6 ≤ X.c6) (hn : cntD d ≤ 50000) (er : Int) (s : ByteArray) (m : Nat) (hm : m < X.n6) :
    Calls Tryd.prog 23 #[dclV X, .agg #[.int .i64 er, .int .i64 9, .int .i64 (m : Int), .string s]] w (OutA B w (aheadD d 9 m)) := by
  have hcnt := h.cnt
  obtain ⟨A0, n0, c0, A1, n1, c1, A2, n2, c2, A3, n3, c3, A4, n4, c4, A5, n5, c5, A6, n6, c6⟩ := X
  simp only at hcnt hcap hm
  have HCN : Hid (n0 + n1 + n2 + n3 + n4 + n5 + n6 ≤ 50000) := Lib.hid (by omega)
  have hs6 : n6 ≤ 50000 := by omega
  have H := Lib.hid h
  have HM : Hid (m ≤ n6) := Lib.hid (by omega)
  have hkc : m ≤ c6 := by omega
  have hmi : (m : Int) < (n6 : Int) := by omega
  have hmn : ¬ (n6 : Int) < (m : Int) := by omega
  have hml : (m : Int) ≤ (n6 : Int) := by omega
  have hnn : ¬ n6 < m := by omega
  have hm0 : (0 : Int) ≤ (m : Int) ∧ (m : Int) ≤ (c6 : Int) := by omega
  have hmin : min (m : Int) (n6 : Int) = (m : Int) := by omega
  clear h hcnt hn
  show Calls Tryd.prog _ #[.agg #[.slice A0 n0 c0, .slice A1 n1 c1, .slice A2 n2 c2, .slice A3 n3 c3, .slice A4 n4 c4, .slice A5 n5 c5, .slice A6 n6 c6], .agg #[.int .i64 er, .int .i64 9, .int .i64 (m : Int), .string s]] w _
  obtain ⟨W, hW⟩ : ∃ W, W = ((w.alloc (.cells #[.slice A0 n0 c0, .slice A1 n1 c1, .slice A2 n2 c2, .slice A3 n3 c3, .slice A4 n4 c4, .slice A5 n5 c5, .slice A6 n6 c6] 24)).alloc (.cells #[.int .i64 er, .int .i64 9, .int .i64 (m : Int), .string s] 30)).alloc (.cells #[.slice none 0 0, .slice none 0 0, .slice none 0 0, .slice none 0 0, .slice none 0 0, .slice none 0 0, .slice none 0 0] 24) := ⟨_, rfl⟩
  have HBW : Hid (Below w.heap.size w W) := Lib.hid (by rw [hW]; exact (((Below.refl _ _).alloc (Nat.le_refl _) _).alloc (by simp) _).alloc (by simp; omega) _)
  have HKW : Hid (Blk W w.heap.size 24 #[.slice A0 n0 c0, .slice A1 n1 c1, .slice A2 n2 c2, .slice A3 n3 c3, .slice A4 n4 c4, .slice A5 n5 c5, .slice A6 n6 c6]) := Lib.hid (by rw [hW]; exact ((Blk.new _ _ _).alloc _).alloc _)
  have HFW : Hid (Blk W (w.heap.size + 1) 30 #[.int .i64 er, .int .i64 9, .int .i64 (m : Int), .string s]) := Lib.hid (by rw [hW]; exact (Blk.new_at _ _ _ _ (by simp)).alloc _)
  have HRW : Hid (Blk W (w.heap.size + 1 + 1) 24 #[.slice none 0 0, .slice none 0 0, .slice none 0 0, .slice none 0 0, .slice none 0 0, .slice none 0 0, .slice none 0 0]) := Lib.hid (by rw [hW]; exact Blk.new_at _ _ _ _ (by simp))
  have f1 : W.cell? ⟨w.heap.size + 1, 1, none⟩ = some (.int .i64 9) := HFW.out.cell 1
  have f2 : W.cell? ⟨w.heap.size + 1, 2, none⟩ = some (.int .i64 (m : Int)) := HFW.out.cell 2
  clear HFW
  go_enter Tryd.func23, Tryd.ntmps23
  go_wp2_with fail
  rw [← hW]
  clear hW
  go_wp2_with fail
  have r0 : W.frozen? ⟨w.heap.size + 1 + 1, 0, none⟩ = false := HRW.out.frozen 0
  have g0 : W.cell? ⟨w.heap.size + 1 + 1, 0, none⟩ = some (.slice none 0 0) := HRW.out.cell 0
  have r1 : W.frozen? ⟨w.heap.size + 1 + 1, 1, none⟩ = false := HRW.out.frozen 1
  have g1 : W.cell? ⟨w.heap.size + 1 + 1, 1, none⟩ = some (.slice none 0 0) := HRW.out.cell 1
  have r2 : W.frozen? ⟨w.heap.size + 1 + 1, 2, none⟩ = false := HRW.out.frozen 2
  have g2 : W.cell? ⟨w.heap.size + 1 + 1, 2, none⟩ = some (.slice none 0 0) := HRW.out.cell 2
  have r3 : W.frozen? ⟨w.heap.size + 1 + 1, 3, none⟩ = false := HRW.out.frozen 3
  have g3 : W.cell? ⟨w.heap.size + 1 + 1, 3, none⟩ = some (.slice none 0 0) := HRW.out.cell 3
  have r4 : W.frozen? ⟨w.heap.size + 1 + 1, 4, none⟩ = false := HRW.out.frozen 4
  have g4 : W.cell? ⟨w.heap.size + 1 + 1, 4, none⟩ = some (.slice none 0 0) := HRW.out.cell 4
  have r5 : W.frozen? ⟨w.heap.size + 1 + 1, 5, none⟩ = false := HRW.out.frozen 5
  have g5 : W.cell? ⟨w.heap.size + 1 + 1, 5, none⟩ = some (.slice none 0 0) := HRW.out.cell 5
  have r6 : W.frozen? ⟨w.heap.size + 1 + 1, 6, none⟩ = false := HRW.out.frozen 6
  have g6 : W.cell? ⟨w.heap.size + 1 + 1, 6, none⟩ = some (.slice none 0 0) := HRW.out.cell 6
  refine wp_region_held_drew (S := fun w' => Below w.heap.size w w' ∧ Blk w' w.heap.size 24 #[.slice A0 n0 c0, .slice A1 n1 c1, .slice A2 n2 c2, .slice A3 n3 c3, .slice A4 n4 c4, .slice A5 n5 c5, .slice A6 n6 c6]) (by kernel_rfl) ⟨HBW.out.drew, HKW.out⟩ (fun hHeld => ?_)
  refine held_take (i := 0) (fuel := 24) (v := ?_) (by rw [List.getElem?_toArray]; rfl) (by kernel_rfl) (by kernel_rfl) (by kernel_rfl) hHeld ?_ ?_ ?_ ?_
  rotate_left
  · intro u hSw
    go_simp
    try with_reducible rfl
  · rfl
  · exact fun _ _ _ h => h
  try simp only [Act.put, List.setIfInBounds_toArray, List.set_cons_zero, List.set_cons_succ]
  refine held_take (i := 1) (fuel := 23) (v := ?_) (by rw [List.getElem?_toArray]; rfl) (by kernel_rfl) (by kernel_rfl) (by kernel_rfl) hHeld ?_ ?_ ?_ ?_
  rotate_left
  · intro u hSw
    have y0 := hSw.2.cell 0
    have y1 := hSw.2.cell 1
    have y2 := hSw.2.cell 2
    have y3 := hSw.2.cell 3
    have y4 := hSw.2.cell 4
    have y5 := hSw.2.cell 5
    have y6 := hSw.2.cell 6
    go_simp
    try with_reducible rfl
  · rfl
  · exact fun _ _ _ h => h
  try simp only [Act.put, List.setIfInBounds_toArray, List.set_cons_zero, List.set_cons_succ]
  refine held_take (i := 2) (fuel := 22) (v := ?_) (by rw [List.getElem?_toArray]; rfl) (by kernel_rfl) (by kernel_rfl) (by kernel_rfl) hHeld ?_ ?_ ?_ ?_
  rotate_left
  · intro u hSw
    go_simp
    try with_reducible rfl
  · rfl
  · exact fun _ _ _ h => h
  try simp only [Act.put, List.setIfInBounds_toArray, List.set_cons_zero, List.set_cons_succ]
  refine held_take (i := 3) (fuel := 21) (v := ?_) (by rw [List.getElem?_toArray]; rfl) (by kernel_rfl) (by kernel_rfl) (by kernel_rfl) hHeld ?_ ?_ ?_ ?_
  rotate_left
  · intro u hSw
    have y0 := hSw.2.cell 0
    have y1 := hSw.2.cell 1
    have y2 := hSw.2.cell 2
    have y3 := hSw.2.cell 3
    have y4 := hSw.2.cell 4
    have y5 := hSw.2.cell 5
    have y6 := hSw.2.cell 6
    go_simp
    try with_reducible rfl
  · rfl
  · exact fun _ _ _ h => h
  try simp only [Act.put, List.setIfInBounds_toArray, List.set_cons_zero, List.set_cons_succ]
  refine held_take (i := 4) (fuel := 20) (v := ?_) (by rw [List.getElem?_toArray]; rfl) (by kernel_rfl) (by kernel_rfl) (by kernel_rfl) hHeld ?_ ?_ ?_ ?_
  rotate_left
  · intro u hSw
    go_simp
    try with_reducible rfl
  · rfl
  · exact fun _ _ _ h => h
  try simp only [Act.put, List.setIfInBounds_toArray, List.set_cons_zero, List.set_cons_succ]
  refine held_take (i := 5) (fuel := 19) (v := ?_) (by rw [List.getElem?_toArray]; rfl) (by kernel_rfl) (by kernel_rfl) (by kernel_rfl) hHeld ?_ ?_ ?_ ?_
  rotate_left
  · intro u hSw
    have y0 := hSw.2.cell 0
    have y1 := hSw.2.cell 1
    have y2 := hSw.2.cell 2
    have y3 := hSw.2.cell 3
    have y4 := hSw.2.cell 4
    have y5 := hSw.2.cell 5
    have y6 := hSw.2.cell 6
    go_simp
    try with_reducible rfl
  · rfl
  · exact fun _ _ _ h => h
  try simp only [Act.put, List.setIfInBounds_toArray, List.set_cons_zero, List.set_cons_succ]
  refine held_take (i := 6) (fuel := 18) (v := ?_) (by rw [List.getElem?_toArray]; rfl) (by kernel_rfl) (by kernel_rfl) (by kernel_rfl) hHeld ?_ ?_ ?_ ?_
  rotate_left
  · intro u hSw
    go_simp
    try with_reducible rfl
  · rfl
  · exact fun _ _ _ h => h
  try simp only [Act.put, List.setIfInBounds_toArray, List.set_cons_zero, List.set_cons_succ]
  refine held_take (i := 7) (fuel := 17) (v := ?_) (by rw [List.getElem?_toArray]; rfl) (by kernel_rfl) (by kernel_rfl) (by kernel_rfl) hHeld ?_ ?_ ?_ ?_
  rotate_left
  · intro u hSw
    have y0 := hSw.2.cell 0
    have y1 := hSw.2.cell 1
    have y2 := hSw.2.cell 2
    have y3 := hSw.2.cell 3
    have y4 := hSw.2.cell 4
    have y5 := hSw.2.cell 5
    have y6 := hSw.2.cell 6
    go_simp
    try with_reducible rfl
  · rfl
  · exact fun _ _ _ h => h
  try simp only [Act.put, List.setIfInBounds_toArray, List.set_cons_zero, List.set_cons_succ]
  refine held_take (i := 8) (fuel := 16) (v := ?_) (by rw [List.getElem?_toArray]; rfl) (by kernel_rfl) (by kernel_rfl) (by kernel_rfl) hHeld ?_ ?_ ?_ ?_
  rotate_left
  · intro u hSw
    go_simp
    try with_reducible rfl
  · rfl
  · exact fun _ _ _ h => h
  try simp only [Act.put, List.setIfInBounds_toArray, List.set_cons_zero, List.set_cons_succ]
  refine held_take (i := 9) (fuel := 15) (v := ?_) (by rw [List.getElem?_toArray]; rfl) (by kernel_rfl) (by kernel_rfl) (by kernel_rfl) hHeld ?_ ?_ ?_ ?_
  rotate_left
  · intro u hSw
    have y0 := hSw.2.cell 0
    have y1 := hSw.2.cell 1
    have y2 := hSw.2.cell 2
    have y3 := hSw.2.cell 3
    have y4 := hSw.2.cell 4
    have y5 := hSw.2.cell 5
    have y6 := hSw.2.cell 6
    go_simp
    try with_reducible rfl
  · rfl
  · exact fun _ _ _ h => h
  try simp only [Act.put, List.setIfInBounds_toArray, List.set_cons_zero, List.set_cons_succ]
  refine held_take (i := 10) (fuel := 14) (v := ?_) (by rw [List.getElem?_toArray]; rfl) (by kernel_rfl) (by kernel_rfl) (by kernel_rfl) hHeld ?_ ?_ ?_ ?_
  rotate_left
  · intro u hSw
    go_simp
    try with_reducible rfl
  · rfl
  · exact fun _ _ _ h => h
  try simp only [Act.put, List.setIfInBounds_toArray, List.set_cons_zero, List.set_cons_succ]
  refine held_take (i := 11) (fuel := 13) (v := ?_) (by rw [List.getElem?_toArray]; rfl) (by kernel_rfl) (by kernel_rfl) (by kernel_rfl) hHeld ?_ ?_ ?_ ?_
  rotate_left
  · intro u hSw
    have y0 := hSw.2.cell 0
    have y1 := hSw.2.cell 1
    have y2 := hSw.2.cell 2
    have y3 := hSw.2.cell 3
    have y4 := hSw.2.cell 4
    have y5 := hSw.2.cell 5
    have y6 := hSw.2.cell 6
    go_simp
    try with_reducible rfl
  · rfl
  · exact fun _ _ _ h => h
  try simp only [Act.put, List.setIfInBounds_toArray, List.set_cons_zero, List.set_cons_succ]
  refine held_take (i := 12) (fuel := 12) (v := ?_) (by rw [List.getElem?_toArray]; rfl) (by kernel_rfl) (by kernel_rfl) (by kernel_rfl) hHeld ?_ ?_ ?_ ?_
  rotate_left
  · intro u hSw
    go_simp
    try with_reducible rfl
  · rfl
  · exact fun _ _ _ h => h
  try simp only [Act.put, List.setIfInBounds_toArray, List.set_cons_zero, List.set_cons_succ]
  refine held_take (i := 13) (fuel := 11) (v := ?_) (by rw [List.getElem?_toArray]; rfl) (by kernel_rfl) (by kernel_rfl) (by kernel_rfl) hHeld ?_ ?_ ?_ ?_
  rotate_left
  · intro u hSw
    have y0 := hSw.2.cell 0
    have y1 := hSw.2.cell 1
    have y2 := hSw.2.cell 2
    have y3 := hSw.2.cell 3
    have y4 := hSw.2.cell 4
    have y5 := hSw.2.cell 5
    have y6 := hSw.2.cell 6
    go_simp
    try with_reducible rfl
  · rfl
  · exact fun _ _ _ h => h
  try simp only [Act.put, List.setIfInBounds_toArray, List.set_cons_zero, List.set_cons_succ]
  refine held_take (i := 14) (fuel := 10) (v := ?_) (by rw [List.getElem?_toArray]; rfl) (by kernel_rfl) (by kernel_rfl) (by kernel_rfl) hHeld ?_ ?_ ?_ ?_
  rotate_left
  · intro u hSw
    go_simp
    try with_reducible rfl
  · rfl
  · exact fun _ _ _ h => h
  try simp only [Act.put, List.setIfInBounds_toArray, List.set_cons_zero, List.set_cons_succ]
  refine held_take (i := 15) (fuel := 9) (v := ?_) (by rw [List.getElem?_toArray]; rfl) (by kernel_rfl) (by kernel_rfl) (by kernel_rfl) hHeld ?_ ?_ ?_ ?_
  rotate_left
  · intro u hSw
    have y0 := hSw.2.cell 0
    have y1 := hSw.2.cell 1
    have y2 := hSw.2.cell 2
    have y3 := hSw.2.cell 3
    have y4 := hSw.2.cell 4
    have y5 := hSw.2.cell 5
    have y6 := hSw.2.cell 6
    go_simp
    try with_reducible rfl
  · rfl
  · exact fun _ _ _ h => h
  try simp only [Act.put, List.setIfInBounds_toArray, List.set_cons_zero, List.set_cons_succ]
  refine held_take (i := 16) (fuel := 8) (v := ?_) (by rw [List.getElem?_toArray]; rfl) (by kernel_rfl) (by kernel_rfl) (by kernel_rfl) hHeld ?_ ?_ ?_ ?_
  rotate_left
  · intro u hSw
    go_simp
    try with_reducible rfl
  · rfl
  · exact fun _ _ _ h => h
  try simp only [Act.put, List.setIfInBounds_toArray, List.set_cons_zero, List.set_cons_succ]
  refine held_take (i := 17) (fuel := 7) (v := ?_) (by rw [List.getElem?_toArray]; rfl) (by kernel_rfl) (by kernel_rfl) (by kernel_rfl) hHeld ?_ ?_ ?_ ?_
  rotate_left
  · intro u hSw
    go_simp
    try with_reducible rfl
  · rfl
  · exact fun _ _ _ h => h
  try simp only [Act.put, List.setIfInBounds_toArray, List.set_cons_zero, List.set_cons_succ]
  refine held_take (i := 18) (fuel := 6) (v := ?_) (by rw [List.getElem?_toArray]; rfl) (by kernel_rfl) (by kernel_rfl) (by kernel_rfl) hHeld ?_ ?_ ?_ ?_
  rotate_left
  · intro u hSw
    have y0 := hSw.2.cell 0
    have y1 := hSw.2.cell 1
    have y2 := hSw.2.cell 2
    have y3 := hSw.2.cell 3
    have y4 := hSw.2.cell 4
    have y5 := hSw.2.cell 5
    have y6 := hSw.2.cell 6
    go_simp
    try with_reducible rfl
  · rfl
  · exact fun _ _ _ h => h
  try simp only [Act.put, List.setIfInBounds_toArray, List.set_cons_zero, List.set_cons_succ]
  refine held_take (i := 19) (fuel := 5) (v := ?_) (by rw [List.getElem?_toArray]; rfl) (by kernel_rfl) (by kernel_rfl) (by kernel_rfl) hHeld ?_ ?_ ?_ ?_
  rotate_left
  · intro u hSw
    go_simp
    try with_reducible rfl
  · rfl
  · exact fun _ _ _ h => h
  try simp only [Act.put, List.setIfInBounds_toArray, List.set_cons_zero, List.set_cons_succ]
  refine held_take (i := 20) (fuel := 4) (v := ?_) (by rw [List.getElem?_toArray]; rfl) (by kernel_rfl) (by kernel_rfl) (by kernel_rfl) hHeld ?_ ?_ ?_ ?_
  rotate_left
  · intro u hSw
    go_simp
    try with_reducible rfl
  · rfl
  · exact fun _ _ _ h => h
  try simp only [Act.put, List.setIfInBounds_toArray, List.set_cons_zero, List.set_cons_succ]
  refine held_take (i := 21) (fuel := 3) (v := ?_) (by rw [List.getElem?_toArray]; rfl) (by kernel_rfl) (by kernel_rfl) (by kernel_rfl) hHeld ?_ ?_ ?_ ?_
  rotate_left
  · intro u hSw
    go_simp
    try with_reducible rfl
  · rfl
  · exact fun _ _ _ h => h
  try simp only [Act.put, List.setIfInBounds_toArray, List.set_cons_zero, List.set_cons_succ]
  refine held_take (i := 22) (fuel := 2) (v := ?_) (by rw [List.getElem?_toArray]; rfl) (by kernel_rfl) (by kernel_rfl) (by kernel_rfl) hHeld ?_ ?_ ?_ ?_
  rotate_left
  · intro u hSw
    go_simp
    try with_reducible rfl
  · rfl
  · exact fun _ _ _ h => h
  try simp only [Act.put, List.setIfInBounds_toArray, List.set_cons_zero, List.set_cons_succ]
  refine held_take (i := 23) (fuel := 1) (v := ?_) (by rw [List.getElem?_toArray]; rfl) (by kernel_rfl) (by kernel_rfl) (by kernel_rfl) hHeld ?_ ?_ ?_ ?_
  rotate_left
  · intro u hSw
    go_simp
    try with_reducible rfl
  · rfl
  · exact fun _ _ _ h => h
  try simp only [Act.put, List.setIfInBounds_toArray, List.set_cons_zero, List.set_cons_succ]
  refine held_one (i := 24) (fuel := 0) (by kernel_rfl) (by rw [List.getElem?_toArray]; rfl) (fun K hK => ?_)
  go_simp
  refine hK.out _ _ ?_ (fun hHeld => ?_)
  · exact ⟨((Below.setCell (p := ⟨w.heap.size + 1 + 1, 6, none⟩) (Below.setCell (p := ⟨w.heap.size + 1 + 1, 5, none⟩) (Below.setCell (p := ⟨w.heap.size + 1 + 1, 4, none⟩) (Below.setCell (p := ⟨w.heap.size + 1 + 1, 3, none⟩) (Below.setCell (p := ⟨w.heap.size + 1 + 1, 2, none⟩) (Below.setCell (p := ⟨w.heap.size + 1 + 1, 1, none⟩) (Below.setCell (p := ⟨w.heap.size + 1 + 1, 0, none⟩) HBW.out (show w.heap.size ≤ w.heap.size + 1 + 1 by omega) (.slice A0 n0 c0)) (show w.heap.size ≤ w.heap.size + 1 + 1 by omega) (.slice A1 n1 c1)) (show w.heap.size ≤ w.heap.size + 1 + 1 by omega) (.slice A2 n2 c2)) (show w.heap.size ≤ w.heap.size + 1 + 1 by omega) (.slice A3 n3 c3)) (show w.heap.size ≤ w.heap.size + 1 + 1 by omega) (.slice A4 n4 c4)) (show w.heap.size ≤ w.heap.size + 1 + 1 by omega) (.slice A5 n5 c5)) (show w.heap.size ≤ w.heap.size + 1 + 1 by omega) (.slice A6 m c6))).drew, Blk_drew (Blk.far (p := ⟨w.heap.size + 1 + 1, 6, none⟩) (Blk.far (p := ⟨w.heap.size + 1 + 1, 5, none⟩) (Blk.far (p := ⟨w.heap.size + 1 + 1, 4, none⟩) (Blk.far (p := ⟨w.heap.size + 1 + 1, 3, none⟩) (Blk.far (p := ⟨w.heap.size + 1 + 1, 2, none⟩) (Blk.far (p := ⟨w.heap.size + 1 + 1, 1, none⟩) (Blk.far (p := ⟨w.heap.size + 1 + 1, 0, none⟩) HKW.out (show w.heap.size ≠ w.heap.size + 1 + 1 by omega) (.slice A0 n0 c0)) (show w.heap.size ≠ w.heap.size + 1 + 1 by omega) (.slice A1 n1 c1)) (show w.heap.size ≠ w.heap.size + 1 + 1 by omega) (.slice A2 n2 c2)) (show w.heap.size ≠ w.heap.size + 1 + 1 by omega) (.slice A3 n3 c3)) (show w.heap.size ≠ w.heap.size + 1 + 1 by omega) (.slice A4 n4 c4)) (show w.heap.size ≠ w.heap.size + 1 + 1 by omega) (.slice A5 n5 c5)) (show w.heap.size ≠ w.heap.size + 1 + 1 by omega) (.slice A6 m c6))⟩
  clear hK K
  try simp only [Act.put, List.setIfInBounds_toArray, List.set_cons_zero, List.set_cons_succ]
  have HY : Hid (Blk (((((((W.setCell ⟨w.heap.size + 1 + 1, 0, none⟩ (.slice A0 n0 c0)).setCell ⟨w.heap.size + 1 + 1, 1, none⟩ (.slice A1 n1 c1)).setCell ⟨w.heap.size + 1 + 1, 2, none⟩ (.slice A2 n2 c2)).setCell ⟨w.heap.size + 1 + 1, 3, none⟩ (.slice A3 n3 c3)).setCell ⟨w.heap.size + 1 + 1, 4, none⟩ (.slice A4 n4 c4)).setCell ⟨w.heap.size + 1 + 1, 5, none⟩ (.slice A5 n5 c5)).setCell ⟨w.heap.size + 1 + 1, 6, none⟩ (.slice A6 m c6)).drew (w.heap.size + 1 + 1) 24 #[.slice A0 n0 c0, .slice A1 n1 c1, .slice A2 n2 c2, .slice A3 n3 c3, .slice A4 n4 c4, .slice A5 n5 c5, .slice A6 m c6]) := Lib.hid (Blk_drew (((((((HRW.out.set_ 0 (.slice A0 n0 c0)).set_ 1 (.slice A1 n1 c1)).set_ 2 (.slice A2 n2 c2)).set_ 3 (.slice A3 n3 c3)).set_ 4 (.slice A4 n4 c4)).set_ 5 (.slice A5 n5 c5)).set_ 6 (.slice A6 m c6)))
  refine wpAnyH_done (by kernel_rfl) ?_ _
  have HBE := Lib.hid hHeld.1
  clear hHeld
  (try simp only [Exit.inBlock, Exit.then, Exit.inSwitch]); go_wp2_with fail
  (try simp only [Exit.inBlock, Exit.then]); refine bodyPost_ret (results_tc rfl _ _ _ _ _ _ _ rfl HY.out Tryd.underlying24 rfl (by kernel_rfl)) rfl ?_
  have hr := H.out.below (HBE.out.mono hB)
  refine ⟨A6, n6, c6, ⟨A0, n0, c0, A1, n1, c1, A2, n2, c2, A3, n3, c3, A4, n4, c4, A5, n5, c5, A6, m, c6⟩, rfl, ?_, ?_, ?_, HBE.out⟩
  · exact hr.da
  · exact ⟨hr.fl, hr.pr, hr.gl, hr.ob, hr.ve, hr.fu, hr.da.front15 HM.out⟩
  · have hcn := HCN.out
    have hm := HM.out
    show n0 + n1 + n2 + n3 + n4 + n5 + m ≤ 50000
    omega

end Go.Proofs.YtgeglhgkibcpfaaDoor
