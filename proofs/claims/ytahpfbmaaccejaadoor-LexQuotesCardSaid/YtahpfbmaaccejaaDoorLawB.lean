/- The walk of the statement LexQuotes. -/
import Derived.Test.YtahpfbmaaccejaaDoorLawA
import Derived.Test.YtahpfbmaaccejaaDoorTellsR
namespace Go.Proofs.YtahpfbmaaccejaaDoor
open Go.RowKit

theorem quoL_size (s : ByteArray) : (bs (quoL s.data.toList)).size ≤ 2 * s.size + 2 := by
  rw [bs_size]
  have h : ∀ l : List UInt8, (l.flatMap quo1).length ≤ 2 * l.length := fun l => by
    induction l with
    | nil => exact Nat.le_refl _
    | cons c r ih =>
      rw [List.flatMap_cons, List.length_append, List.length_cons]
      have := quo1_len c
      omega
  have h1 := h s.data.toList
  have h2 : s.data.toList.length = s.size := by rw [Array.length_toList]; rfl
  unfold quoL
  rw [List.length_cons, List.length_append, List.length_singleton]
  omega

set_option maxRecDepth 100000 in
set_option maxHeartbeats 6400000 in
theorem quotes_walk (s : ByteArray) (w : World) (hP : Pw w) :
    Calls Tryd.prog 5 #[.string s] w fun e w' => e = .returned (.bool true) ∧ Below w.heap.size w w' := by
  have HP := Lib.hid hP
  clear hP
  by_cases hn : (s.size : Int) ≤ 1100
  · have hqs := quoL_size s
    have HQL : Hid ((bs (quoL s.data.toList)).data.toList = quoL s.data.toList) := Lib.hid (by simp [bs])
    cases ht : textB s.data.toList with
    | false =>
      obtain ⟨h1, h2⟩ := lex_quote_no keyB ht (by rw [Array.length_toList]; show s.size ≤ _; omega)
      obtain ⟨⟨ts, a, b, d⟩, hR⟩ : ∃ R, R = lexL keyB (quoL s.data.toList) := ⟨_, rfl⟩
      rw [← hR] at h1 h2
      have HR := Lib.hid hR
      obtain rfl : ts = [] := h1
      have hne : ¬ (a, b, d) = ((0, 0, 0) : Int × Int × Int) := fun e => h2 (by injection e)
      have r5 : ∀ (x y : Operand) (W : World), (eqGuard .neq 28 x y (.agg #[.int .i64 a, .int .i64 b, .int .i64 d]) (.agg #[.int .i64 0, .int .i64 0, .int .i64 0])).run Tryd.prog W = .ok () W := fun x y W => guard_fail .neq x y (a, b, d) (0, 0, 0) W
      have r6 : ∀ W : World, (binOp .neq 28 (.agg #[.int .i64 a, .int .i64 b, .int .i64 d]) (.agg #[.int .i64 0, .int .i64 0, .int .i64 0])).run Tryd.prog W = .ok (.bool true) W := fun W => by
        have h := run_neq_fail (a, b, d) (0, 0, 0) W
        rw [decide_eq_false hne] at h
        exact h
      have HT := Lib.hid ht
      clear hR h2 hne ht
      go_enter Tryd.func5, Tryd.ntmps5
      go_wp2_with fail
      refine (Quote_any w s (by omega)).mono ?_
      rintro e w0 ⟨rfl, hb0⟩
      have HB0 := Lib.hid hb0
      clear hb0
      go_wp2_with fail
      refine (All_any w0 _ (by omega) (HP.out.below HB0.out (Nat.le_refl _))).mono ?_
      rintro e w1 ⟨A, n, c, he, ho, hb⟩
      rw [HQL.out, ← HR.out] at he ho
      subst he
      obtain rfl : n = 0 := (ownT_len ho).symm
      have HO := Lib.hid ho
      have HB := Lib.hid (HB0.out.trans (hb.mono HB0.out.size))
      clear ho hb
      go_wp2_with (refine wpList_store_row rfl 28 _ _ rfl w1.heap.size #[.int .i64 a, .int .i64 b, .int .i64 d] rfl rfl _ _ (Blk.new w1 _ _) fail_size rfl (three_ints _ _ _) ?_; obtain ⟨V1, hV1⟩ : ∃ V, V = (w1.alloc (.cells #[.int .i64 0, .int .i64 0, .int .i64 0] 28)).setRow w1.heap.size #[.int .i64 a, .int .i64 b, .int .i64 d] := ⟨_, rfl⟩; rw [← hV1]; obtain ⟨hkV1, hbV1⟩ := put_tok hV1; have HKV1 := Lib.hid hkV1; have HBV1 := Lib.hid hbV1; clear hV1 hkV1 hbV1; have HO1 := Lib.hid (own_below HO.out HBV1.out); have HBX := Lib.hid (HB.out.trans (HBV1.out.mono HB.out.size)); have p0 : V1.cell? ⟨w1.heap.size, 0, none⟩ = some (.int .i64 a) := HKV1.out.cell 0; have p1 : V1.cell? ⟨w1.heap.size, 1, none⟩ = some (.int .i64 b) := HKV1.out.cell 1; have p2 : V1.cell? ⟨w1.heap.size, 2, none⟩ = some (.int .i64 d) := HKV1.out.cell 2)
      refine (rtext_any V1 s (by omega)).mono ?_
      rintro e w2 ⟨rfl, rfl⟩
      rw [HT.out]
      go_wp2_with fail
      refine (awake_any V1 (HP.out.below HBX.out (Nat.le_refl _))).mono ?_
      rintro e w9 ⟨rfl, hb9⟩
      have HB9 := Lib.hid (HBX.out.trans (hb9.mono HBX.out.size))
      clear hb9
      go_wp2_with fail
      go_ret
      exact ⟨rfl, HB9.out⟩
    | true =>
      obtain ⟨t, hR⟩ := lex_quote keyB ht
      have HR := Lib.hid hR
      have r1 : ∀ (x y : Operand) (W : World), (eqGuard .eql 34 x y (.agg #[.int .i64 3, .string s, .int .i64 0, .int .i64 1, .int .i64 1]) (.agg #[.int .i64 3, .string s, .int .i64 0, .int .i64 1, .int .i64 1])).run Tryd.prog W = .ok () W := fun x y W => by
        have h := guard_tok .eql x y ⟨3, s.data.toList, 0, 1, 1⟩ ⟨3, s.data.toList, 0, 1, 1⟩ W
        unfold tkV at h
        rw [bs_data] at h
        exact h
      have r2 : ∀ W : World, (binOp .eql 34 (.agg #[.int .i64 3, .string s, .int .i64 0, .int .i64 1, .int .i64 1]) (.agg #[.int .i64 3, .string s, .int .i64 0, .int .i64 1, .int .i64 1])).run Tryd.prog W = .ok (.bool true) W := fun W => by
        have h := run_eql_tok ⟨3, s.data.toList, 0, 1, 1⟩ ⟨3, s.data.toList, 0, 1, 1⟩ W
        unfold tkV at h
        rw [bs_data, decide_eq_true rfl] at h
        exact h
      have r5 : ∀ (x y : Operand) (W : World), (eqGuard .eql 28 x y (.agg #[.int .i64 0, .int .i64 0, .int .i64 0]) (.agg #[.int .i64 0, .int .i64 0, .int .i64 0])).run Tryd.prog W = .ok () W := fun x y W => guard_fail .eql x y (0, 0, 0) (0, 0, 0) W
      have r6 : ∀ W : World, (binOp .eql 28 (.agg #[.int .i64 0, .int .i64 0, .int .i64 0]) (.agg #[.int .i64 0, .int .i64 0, .int .i64 0])).run Tryd.prog W = .ok (.bool true) W := fun W => run_eql_fail (0, 0, 0) (0, 0, 0) W
      have HT := Lib.hid ht
      clear hR ht
      go_enter Tryd.func5, Tryd.ntmps5
      go_wp2_with fail
      refine (Quote_any w s (by omega)).mono ?_
      rintro e w0 ⟨rfl, hb0⟩
      have HB0 := Lib.hid hb0
      clear hb0
      go_wp2_with fail
      refine (All_any w0 _ (by omega) (HP.out.below HB0.out (Nat.le_refl _))).mono ?_
      rintro e w1 ⟨A, n, c, he, ho, hb⟩
      rw [HQL.out, HR.out] at he ho
      subst he
      obtain rfl : n = 2 := (ownT_len ho).symm
      obtain ⟨g, c', hv, hgb, hgl⟩ := ho.form (by omega)
      obtain rfl : A = some ⟨g, 0, none⟩ := by injection hv
      have HO := Lib.hid ho
      have HB := Lib.hid (HB0.out.trans (hb.mono HB0.out.size))
      clear ho hb hv hgb hgl
      go_wp2_with (refine wpList_store_row rfl 28 _ _ rfl w1.heap.size #[.int .i64 0, .int .i64 0, .int .i64 0] rfl rfl _ _ (Blk.new w1 _ _) fail_size rfl (three_ints _ _ _) ?_; obtain ⟨V1, hV1⟩ : ∃ V, V = (w1.alloc (.cells #[.int .i64 0, .int .i64 0, .int .i64 0] 28)).setRow w1.heap.size #[.int .i64 0, .int .i64 0, .int .i64 0] := ⟨_, rfl⟩; rw [← hV1]; obtain ⟨hkV1, hbV1⟩ := put_tok hV1; have HKV1 := Lib.hid hkV1; have HBV1 := Lib.hid hbV1; clear hV1 hkV1 hbV1; have HO1 := Lib.hid (own_below HO.out HBV1.out); have HBX := Lib.hid (HB.out.trans (HBV1.out.mono HB.out.size)); have p0 : V1.cell? ⟨w1.heap.size, 0, none⟩ = some (.int .i64 0) := HKV1.out.cell 0; have p1 : V1.cell? ⟨w1.heap.size, 1, none⟩ = some (.int .i64 0) := HKV1.out.cell 1; have p2 : V1.cell? ⟨w1.heap.size, 2, none⟩ = some (.int .i64 0) := HKV1.out.cell 2; have c0 : V1.cell? ⟨g, 0, none⟩ = some (.int .i64 3) := own_cell9 HO1.out 0 _ rfl; have c1 : V1.cell? ⟨g, 1, none⟩ = some (.string s) := own_cell9 HO1.out 1 _ (congrArg (fun x => some (Value.string x)) (bs_data s)); have c2 : V1.cell? ⟨g, 2, none⟩ = some (.int .i64 0) := own_cell9 HO1.out 2 _ rfl; have c3 : V1.cell? ⟨g, 3, none⟩ = some (.int .i64 1) := own_cell9 HO1.out 3 _ rfl; have c4 : V1.cell? ⟨g, 4, none⟩ = some (.int .i64 1) := own_cell9 HO1.out 4 _ rfl)
      refine (rtext_any V1 s (by omega)).mono ?_
      rintro e w2 ⟨rfl, rfl⟩
      rw [HT.out]
      go_wp2_with fail
      refine (awake_any V1 (HP.out.below HBX.out (Nat.le_refl _))).mono ?_
      rintro e w9 ⟨rfl, hb9⟩
      have HB9 := Lib.hid (HBX.out.trans (hb9.mono HBX.out.size))
      clear hb9
      go_wp2_with fail
      go_ret
      exact ⟨rfl, HB9.out⟩
  · have hbig : (1100 : Int) < s.size := by omega
    go_enter Tryd.func5, Tryd.ntmps5
    go_wp2_with fail
    refine (awake_any w HP.out).mono ?_
    rintro e w1 ⟨rfl, hb1⟩
    go_wp2_with fail
    go_ret
    exact ⟨rfl, hb1⟩

end Go.Proofs.YtahpfbmaaccejaaDoor
