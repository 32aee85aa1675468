/- The statements' awake. -/
import Derived.Test.YtahpfbmaaccejaaDoorLexZ
namespace Go.Proofs.YtahpfbmaaccejaaDoor
open Go.RowKit

def sayT : List Tk := [⟨4, [115, 97, 121], 0, 1, 1⟩, ⟨2, [], 1, 1, 5⟩, ⟨5, [59], 0, 1, 6⟩, ⟨0, [], 0, 1, 7⟩]
theorem lex_say : lexL keyB [115, 97, 121, 32, 49, 59] = (sayT, (0, 0, 0)) := by kernel_rfl
theorem lex_007 : lexL keyB [48, 48, 55] = ([], (4, 1, 1)) := by kernel_rfl
theorem dir_in : dirN [105, 110] = 11 := by kernel_rfl

theorem own_cell9 {w : World} {base g : Nat} {e : TypeId} {n c : Nat} {ts : List Tk} (h : w.ownsRow base e 5 (.slice (some ⟨g, 0, none⟩) n c) n (tkv ts)) (j : Nat) (v : Value) (hv : (tkv ts)[j]? = some v) : w.cell? ⟨g, j, none⟩ = some v := by
  have := h.cells (g := g) rfl j v hv
  rw [Addr.add_lit, Nat.zero_add] at this
  exact this

set_option maxRecDepth 100000 in
set_option maxHeartbeats 6400000 in
theorem awake_any (w : World) (hP : Pw w) : Calls Tryd.prog 8 #[] w fun e w' => e = .returned (.bool true) ∧ Below w.heap.size w w' := by
  have HP := Lib.hid hP
  clear hP
  go_enter Tryd.func8, Tryd.ntmps8
  go_wp2_with fail
  refine (All_any w ⟨#[115, 97, 121, 32, 49, 59]⟩ (by decide) HP.out).mono ?_
  rintro e w1 ⟨A, n, c, he, ho, hb⟩
  rw [show lexL keyB (ByteArray.mk #[115, 97, 121, 32, 49, 59]).data.toList = (sayT, (0, 0, 0)) from lex_say] at he ho
  subst he
  obtain rfl : n = 4 := (ownT_len ho).symm
  obtain ⟨g, c', hv, hgb, hgl⟩ := ho.form (by omega)
  obtain rfl : A = some ⟨g, 0, none⟩ := by injection hv
  have HO := Lib.hid ho
  have HB := Lib.hid hb
  clear ho hb hv hgb hgl
  go_wp2_with (refine wpList_store_row rfl 28 _ _ rfl w1.heap.size #[.int .i64 0, .int .i64 0, .int .i64 0] rfl rfl _ _ (Blk.new w1 _ _) fail_size rfl (three_ints _ _ _) ?_; obtain ⟨V1, hV1⟩ : ∃ V, V = (w1.alloc (.cells #[.int .i64 0, .int .i64 0, .int .i64 0] 28)).setRow w1.heap.size #[.int .i64 0, .int .i64 0, .int .i64 0] := ⟨_, rfl⟩; rw [← hV1]; obtain ⟨hkV1, hbV1⟩ := put_tok hV1; have HKV1 := Lib.hid hkV1; have HBV1 := Lib.hid hbV1; clear hV1 hkV1 hbV1)
  refine (All_any V1 ⟨#[48, 48, 55]⟩ (by decide) ((HP.out.below HB.out (Nat.le_refl _)).below HBV1.out (Nat.le_refl _))).mono ?_
  rintro e w2 ⟨A2, n2, c2, he, ho2, hb2⟩
  rw [show lexL keyB (ByteArray.mk #[48, 48, 55]).data.toList = ([], (4, 1, 1)) from lex_007] at he ho2
  subst he
  obtain rfl : n2 = 0 := (ownT_len ho2).symm
  have HB2 := Lib.hid hb2
  clear ho2 hb2
  have HO2 := Lib.hid (own_below (own_below HO.out HBV1.out) HB2.out)
  have HBX := Lib.hid ((HB.out.trans (HBV1.out.mono HB.out.size)).trans (HB2.out.mono (HB.out.trans (HBV1.out.mono HB.out.size)).size))
  have HK2 := Lib.hid (HKV1.out.below HB2.out HKV1.out.lt)
  have r1 : ∀ (x y : Operand) (W : World), (eqGuard .eql 34 x y (.agg #[.int .i64 4, .string ⟨#[115, 97, 121]⟩, .int .i64 0, .int .i64 1, .int .i64 1]) (.agg #[.int .i64 4, .string ⟨#[115, 97, 121]⟩, .int .i64 0, .int .i64 1, .int .i64 1])).run Tryd.prog W = .ok () W := fun x y W => guard_tok .eql x y ⟨4, [115, 97, 121], 0, 1, 1⟩ ⟨4, [115, 97, 121], 0, 1, 1⟩ W
  have r2 : ∀ W : World, (binOp .eql 34 (.agg #[.int .i64 4, .string ⟨#[115, 97, 121]⟩, .int .i64 0, .int .i64 1, .int .i64 1]) (.agg #[.int .i64 4, .string ⟨#[115, 97, 121]⟩, .int .i64 0, .int .i64 1, .int .i64 1])).run Tryd.prog W = .ok (.bool true) W := fun W => run_eql_tok ⟨4, [115, 97, 121], 0, 1, 1⟩ ⟨4, [115, 97, 121], 0, 1, 1⟩ W
  have r3 : ∀ (x y : Operand) (W : World), (eqGuard .eql 34 x y (.agg #[.int .i64 0, .string ⟨#[]⟩, .int .i64 0, .int .i64 1, .int .i64 7]) (.agg #[.int .i64 0, .string ⟨#[]⟩, .int .i64 0, .int .i64 1, .int .i64 7])).run Tryd.prog W = .ok () W := fun x y W => guard_tok .eql x y ⟨0, [], 0, 1, 7⟩ ⟨0, [], 0, 1, 7⟩ W
  have r4 : ∀ W : World, (binOp .eql 34 (.agg #[.int .i64 0, .string ⟨#[]⟩, .int .i64 0, .int .i64 1, .int .i64 7]) (.agg #[.int .i64 0, .string ⟨#[]⟩, .int .i64 0, .int .i64 1, .int .i64 7])).run Tryd.prog W = .ok (.bool true) W := fun W => run_eql_tok ⟨0, [], 0, 1, 7⟩ ⟨0, [], 0, 1, 7⟩ W
  have r5 : ∀ (x y : Operand) (W : World), (eqGuard .eql 28 x y (.agg #[.int .i64 0, .int .i64 0, .int .i64 0]) (.agg #[.int .i64 0, .int .i64 0, .int .i64 0])).run Tryd.prog W = .ok () W := fun x y W => guard_fail .eql x y (0, 0, 0) (0, 0, 0) W
  have r6 : ∀ W : World, (binOp .eql 28 (.agg #[.int .i64 0, .int .i64 0, .int .i64 0]) (.agg #[.int .i64 0, .int .i64 0, .int .i64 0])).run Tryd.prog W = .ok (.bool true) W := fun W => run_eql_fail (0, 0, 0) (0, 0, 0) W
  have r7 : ∀ (x y : Operand) (W : World), (eqGuard .eql 28 x y (.agg #[.int .i64 4, .int .i64 1, .int .i64 1]) (.agg #[.int .i64 4, .int .i64 1, .int .i64 1])).run Tryd.prog W = .ok () W := fun x y W => guard_fail .eql x y (4, 1, 1) (4, 1, 1) W
  have r8 : ∀ W : World, (binOp .eql 28 (.agg #[.int .i64 4, .int .i64 1, .int .i64 1]) (.agg #[.int .i64 4, .int .i64 1, .int .i64 1])).run Tryd.prog W = .ok (.bool true) W := fun W => run_eql_fail (4, 1, 1) (4, 1, 1) W
  go_wp2_with (refine wpList_store_row rfl 28 _ _ rfl w2.heap.size #[.int .i64 4, .int .i64 1, .int .i64 1] rfl rfl _ _ (Blk.new w2 _ _) fail_size rfl (three_ints _ _ _) ?_; obtain ⟨V2, hV2⟩ : ∃ V, V = (w2.alloc (.cells #[.int .i64 0, .int .i64 0, .int .i64 0] 28)).setRow w2.heap.size #[.int .i64 4, .int .i64 1, .int .i64 1] := ⟨_, rfl⟩; rw [← hV2]; obtain ⟨hkV2, hbV2⟩ := put_tok hV2; have HKV2 := Lib.hid hkV2; have HBV2 := Lib.hid hbV2; clear hV2 hkV2 hbV2; have HO3 := Lib.hid (own_below HO2.out HBV2.out); have HBY := Lib.hid (HBX.out.trans (HBV2.out.mono HBX.out.size)); have HK3 := Lib.hid (HK2.out.below HBV2.out HK2.out.lt); have c0 : V2.cell? ⟨g, 0, none⟩ = some (.int .i64 4) := own_cell9 HO3.out 0 _ rfl; have c1 : V2.cell? ⟨g, 1, none⟩ = some (.string ⟨#[115, 97, 121]⟩) := own_cell9 HO3.out 1 _ rfl; have c2 : V2.cell? ⟨g, 2, none⟩ = some (.int .i64 0) := own_cell9 HO3.out 2 _ rfl; have c3 : V2.cell? ⟨g, 3, none⟩ = some (.int .i64 1) := own_cell9 HO3.out 3 _ rfl; have c4 : V2.cell? ⟨g, 4, none⟩ = some (.int .i64 1) := own_cell9 HO3.out 4 _ rfl; have c7 : V2.cell? ⟨g, 7, none⟩ = some (.int .i64 1) := own_cell9 HO3.out 7 _ rfl; have c15 : V2.cell? ⟨g, 15, none⟩ = some (.int .i64 0) := own_cell9 HO3.out 15 _ rfl; have c16 : V2.cell? ⟨g, 16, none⟩ = some (.string ⟨#[]⟩) := own_cell9 HO3.out 16 _ rfl; have c17 : V2.cell? ⟨g, 17, none⟩ = some (.int .i64 0) := own_cell9 HO3.out 17 _ rfl; have c18 : V2.cell? ⟨g, 18, none⟩ = some (.int .i64 1) := own_cell9 HO3.out 18 _ rfl; have c19 : V2.cell? ⟨g, 19, none⟩ = some (.int .i64 7) := own_cell9 HO3.out 19 _ rfl; have p0 : V2.cell? ⟨w1.heap.size, 0, none⟩ = some (.int .i64 0) := HK3.out.cell 0; have p1 : V2.cell? ⟨w1.heap.size, 1, none⟩ = some (.int .i64 0) := HK3.out.cell 1; have p2 : V2.cell? ⟨w1.heap.size, 2, none⟩ = some (.int .i64 0) := HK3.out.cell 2; have q0 : V2.cell? ⟨w2.heap.size, 0, none⟩ = some (.int .i64 4) := HKV2.out.cell 0; have q1 : V2.cell? ⟨w2.heap.size, 1, none⟩ = some (.int .i64 1) := HKV2.out.cell 1; have q2 : V2.cell? ⟨w2.heap.size, 2, none⟩ = some (.int .i64 1) := HKV2.out.cell 2)
  refine (Dir_any V2 ⟨#[105, 110]⟩).mono ?_
  rintro e w3 ⟨rfl, hb3⟩
  rw [show dirN (ByteArray.mk #[105, 110]).data.toList = 11 from dir_in]
  have HB3 := Lib.hid (HBY.out.trans (hb3.mono HBY.out.size))
  clear hb3
  go_wp2_with fail
  go_ret
  exact ⟨rfl, HB3.out⟩

end Go.Proofs.YtahpfbmaaccejaaDoor
