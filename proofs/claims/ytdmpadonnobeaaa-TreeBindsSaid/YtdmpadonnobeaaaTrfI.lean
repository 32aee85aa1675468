/- Contracts of the program's sourceLanguage, Right, RightBlock. -/
import Derived.Test.YtdmpadonnobeaaaTrfF
import Derived.Test.YtdmpadonnobeaaaTrfC
import Derived.Laws.EntriesVeiled
namespace Go.Proofs.Ytdmpadonnobeaaa
open Go.RowKit
set_option linter.unusedVariables false

set_option maxRecDepth 100000 in
set_option maxHeartbeats 1600000 in
theorem tsrcName_any (s : SL) (w : World) : Calls Try.prog 49 #[sVal s] w fun f w' => f = .returned (lbV 0 s.name) ∧ Below w.heap.size w w' := by
  obtain ⟨k, m, s, A, n, c, es, A1, n1, c1, bo, A2, n2, c2, el⟩ := s
  show Calls Try.prog _ #[.agg #[.int .i64 k, .int .i64 m, .string (bs s), .slice A n c, .slice A1 n1 c1, .slice A2 n2 c2]] w fun f w' => f = .returned (lbV 0 s) ∧ Below w.heap.size w w'
  go_enter Try.func49, Try.ntmps49
  go_wp2_with fail
  (try simp only [Exit.inBlock, Exit.then]); refine bodyPost_ret (results_cell_row rfl _ _ _ _ _ _ _ rfl (Blk.new_at _ 59 _ (w.heap.size + 1) (by simp)) Try.underlying59 rfl (by kernel_rfl)) rfl ?_
  exact ⟨rfl, ((Below.refl _ _).alloc (Nat.le_refl _) _).alloc (by simp) _⟩

/-- the language of sources -/
def srcG : LG := ⟨2, 9, 49, 50, 51, #[]⟩

theorem srcG_ok (w : World) : LGok w srcG srcE srcS (fun s => (0, s.name)) where
  eN := ⟨_, Try.func49, by kernel_rfl, by kernel_rfl⟩
  eE := ⟨_, Try.func50, by kernel_rfl, by kernel_rfl⟩
  eS := ⟨_, Try.func51, by kernel_rfl, by kernel_rfl⟩
  hN := fun s W _ _ => tsrcName_any s W
  hE := fun e W _ hin => tisSourceExpr_any e W hin
  hS := fun s W _ hin => tisSourceStmt_any s W hin

set_option maxRecDepth 100000 in
set_option maxHeartbeats 1600000 in
theorem tsourceLanguage_any (w : World) : Calls Try.prog 32 #[] w fun f w' => f = .returned srcG.val ∧ Below w.heap.size w w' := by
  show Calls Try.prog _ #[] w fun f w' => f = .returned (.agg #[.int .i64 2, .int .i64 9, .func (.func 49) #[] #[], .func (.func 50) #[] #[], .func (.func 51) #[] #[]]) ∧ Below w.heap.size w w'
  go_enter Try.func32, Try.ntmps32
  go_wp2_with fail
  (try simp only [Exit.inBlock, Exit.then]); refine bodyPost_ret (results_cell_row rfl _ _ _ _ _ _ _ rfl (Blk.new _ 51 _) Try.underlying51 rfl (by kernel_rfl)) rfl ?_
  exact ⟨rfl, (Below.refl _ _).alloc (Nat.le_refl _) _⟩

set_option maxRecDepth 100000 in
set_option maxHeartbeats 6400000 in
theorem tRight_vE (e : EL) (w : World) (hin : e.In w w.heap.size) : Calls Try.prog 11 #[eVal e] w fun f w' => f = .returned (.bool (vE srcE 2 32 e)) ∧ Below w.heap.size w w' := by
  obtain ⟨q, hq⟩ : ∃ q, q = vE srcE 2 32 e := ⟨_, rfl⟩
  obtain ⟨ev, hev⟩ : ∃ v, v = eVal e := ⟨_, rfl⟩
  have HC : Hid (∀ W : World, Below w.heap.size w W → Calls Try.prog 33 #[srcG.val, ev, .int .i64 32] W fun f w' => f = .returned (.bool q) ∧ Below W.heap.size W w') := Lib.hid (fun W hb => by
    rw [hq, hev]
    exact tvalidExpr_any w srcG srcE srcS _ (srcG_ok w) 32 (by decide) e W hb (EL.In.more hb.size (hin.below hb)))
  rw [← hq, ← hev]
  clear hq hin
  obtain ⟨k, o, m, s, A, n, c, es⟩ := e
  have hev2 : ev = .agg #[.int .i64 k, .int .i64 o, .int .i64 m, .string (bs s), .slice A n c] := hev
  clear hev
  subst hev2
  obtain ⟨W, hW⟩ : ∃ W, W = w.alloc (.cells #[.int .i64 k, .int .i64 o, .int .i64 m, .string (bs s), .slice A n c] 24) := ⟨_, rfl⟩
  have HBW : Hid (Below w.heap.size w W) := Lib.hid (by rw [hW]; exact (Below.refl _ _).alloc (Nat.le_refl _) _)
  have hce : Hid (∀ u : World, Below W.heap.size W u → u.cell? ⟨w.heap.size, 0, none⟩ = some (.int .i64 k) ∧ u.cell? ⟨w.heap.size, 1, none⟩ = some (.int .i64 o) ∧ u.cell? ⟨w.heap.size, 2, none⟩ = some (.int .i64 m) ∧ u.cell? ⟨w.heap.size, 3, none⟩ = some (.string (bs s)) ∧ u.cell? ⟨w.heap.size, 4, none⟩ = some (.slice A n c)) := Lib.hid (fun u hb => by
    have hk : Blk W w.heap.size 24 #[.int .i64 k, .int .i64 o, .int .i64 m, .string (bs s), .slice A n c] := by rw [hW]; exact Blk.new w _ _
    have hk2 := hk.below hb hk.lt
    exact ⟨hk2.cell 0, hk2.cell 1, hk2.cell 2, hk2.cell 3, hk2.cell 4⟩)
  go_enter Try.func11, Try.ntmps11
  go_wp2_with fail
  rw [← hW]
  clear hW
  refine wp_region_held_drew (S := Below W.heap.size W) (by kernel_rfl) (Below.refl _ _).drew (fun hHeld => ?_)
  refine held_take (i := 1) (fuel := 3) (v := ?_) (by rw [List.getElem?_toArray]; rfl) (by kernel_rfl) (by kernel_rfl) (by kernel_rfl) hHeld ?_ ?_ ?_ ?_
  rotate_left
  · intro u hSw
    obtain ⟨c0, c1, c2, c3, c4⟩ := hce.out u hSw
    go_simp
    try with_reducible rfl
  · rfl
  · exact fun _ _ _ h => h
  try simp only [Act.put, List.setIfInBounds_toArray, List.set_cons_zero, List.set_cons_succ]
  refine held_one (i := 0) (fuel := 2) (by kernel_rfl) (by rw [List.getElem?_toArray]; rfl) (fun K hK => ?_)
  go_simp
  refine (tsourceLanguage_any _).mono ?_
  rintro f w3 ⟨rfl, hb3⟩
  refine hK.out _ _ ?_ (fun hHeld => ?_)
  · exact hHeld.trans (hb3.mono hHeld.size)
  clear hK K
  try simp only [Act.put, List.setIfInBounds_toArray, List.set_cons_zero, List.set_cons_succ]
  refine held_one (i := 2) (fuel := 1) (by kernel_rfl) (by rw [List.getElem?_toArray]; rfl) (fun K hK => ?_)
  go_simp
  refine (HC.out _ (HBW.out.trans (hHeld.mono HBW.out.size))).mono ?_
  rintro f w4 ⟨rfl, hb4⟩
  refine hK.out _ _ ?_ (fun hHeld => ?_)
  · exact hHeld.trans (hb4.mono hHeld.size)
  clear hK K
  try simp only [Act.put, List.setIfInBounds_toArray, List.set_cons_zero, List.set_cons_succ]
  refine held_take (i := 3) (fuel := 0) (v := ?_) (by rw [List.getElem?_toArray]; rfl) (by kernel_rfl) (by kernel_rfl) (by kernel_rfl) hHeld ?_ ?_ ?_ ?_
  rotate_left
  · intro u hSw
    go_simp
    try with_reducible rfl
  · rfl
  · exact fun _ _ _ h => h
  try simp only [Act.put, List.setIfInBounds_toArray, List.set_cons_zero, List.set_cons_succ]
  refine wpAnyH_done (by kernel_rfl) ?_ _
  have HF := Lib.hid (HBW.out.trans (hHeld.mono HBW.out.size))
  go_wp2_with fail
  go_ret
  exact ⟨rfl, HF.out⟩

set_option maxRecDepth 100000 in
set_option maxHeartbeats 1600000 in
theorem tRightBlock_vB (ss : List SL) (A : Option Addr) (n c : Nat) (w : World) (hA : RowS6 w w.heap.size A n ss) (hAi : SL.Ins w w.heap.size ss) : Calls Try.prog 14 #[.slice A n c] w fun f w' => f = .returned (.bool (vB srcE srcS (fun s => (0, s.name)) 2 9 32 ss)) ∧ Below w.heap.size w w' := by
  obtain ⟨q, hq⟩ : ∃ q, q = vB srcE srcS (fun s => (0, s.name)) 2 9 32 ss := ⟨_, rfl⟩
  have HC : Hid (∀ W : World, Below w.heap.size w W → Calls Try.prog 35 #[srcG.val, .slice A n c, .int .i64 32] W fun f w' => f = .returned (.bool q) ∧ Below W.heap.size W w') := Lib.hid (fun W hb => by
    rw [hq]
    exact tvalid_all w srcG srcE srcS _ (srcG_ok w) 32 (by decide) ss A n c W hb ((RowS6.below hA hb).more hb.size) ((SL.Ins.below hAi hb).more hb.size))
  rw [← hq]
  clear hq hA hAi
  go_enter Try.func14, Try.ntmps14
  go_wp2_with fail
  refine (tsourceLanguage_any w).mono ?_
  rintro f w1 ⟨rfl, hb1⟩
  have HB1 := Lib.hid hb1
  clear hb1
  go_wp2_with fail
  refine (HC.out w1 HB1.out).mono ?_
  rintro f w2 ⟨rfl, hb2⟩
  go_wp2_with fail
  go_ret
  exact ⟨rfl, HB1.out.trans (hb2.mono HB1.out.size)⟩

end Go.Proofs.Ytdmpadonnobeaaa
