/- The statements' awake. -/
import Derived.Test.YtgeglhgkibcpfaaDoorNmqI
namespace Go.Proofs.YtgeglhgkibcpfaaDoor
open Go.RowKit
set_option linter.unusedVariables false

def awD1 : Dl := ⟨[[114, 101, 100]], [], [], [[104, 97, 108, 108]], [], [], []⟩
def awD2 : Dl := ⟨[], [], [], [[111, 112, 101, 110]], [], [], []⟩
def awT : List Nm := [⟨[98, 111, 120], 1, 2⟩, ⟨[104, 97, 108, 108], 4, 2⟩, ⟨[104, 105, 100, 100, 101, 110], 1, 3⟩, ⟨[108, 105, 116], 1, 0⟩, ⟨[111, 112, 101, 110], 1, 1⟩, ⟨[114, 101, 100], 1, 4⟩]
theorem aw_make1 : makeN gdN awD1 = (awT, (0, 0, 0, [])) := by kernel_rfl
theorem aw_make2 : makeN gdN awD2 = ([], (10, 5, 0, [111, 112, 101, 110])) := by kernel_rfl
theorem aw_of : ofI awT 4 [104, 97, 108, 108] = (2, 0) := by kernel_rfl

theorem own_cell15 {w : World} {base g sz : Nat} {e : TypeId} {n c : Nat} {xs : List Value} (h : w.ownsRow base e sz (.slice (some ⟨g, 0, none⟩) n c) n xs) (j : Nat) (v : Value) (hv : xs[j]? = some v) : w.cell? ⟨g, j, none⟩ = some v := by
  have := h.cells (g := g) rfl j v hv
  rw [Addr.add_lit, Nat.zero_add] at this
  exact this

set_option maxRecDepth 100000 in
set_option maxHeartbeats 12800000 in
theorem awake15_any (w : World) (hfl : Fl w) : Calls Tryd.prog 9 #[] w fun e w' => e = .returned (.bool true) ∧ Below w.heap.size w w' := by
  have HFL := Lib.hid hfl
  clear hfl
  obtain ⟨W, hW⟩ : ∃ W, W = (w.alloc (.cells #[.string ⟨#[114, 101, 100]⟩] 9)).alloc (.cells #[.string ⟨#[104, 97, 108, 108]⟩, .string ⟨#[]⟩, .string ⟨#[]⟩, .string ⟨#[]⟩, .bool false, .slice none 0 0, .slice none 0 0, .slice none 0 0, .slice none 0 0, .slice none 0 0] 58) := ⟨_, rfl⟩
  have HBW : Hid (Below w.heap.size w W) := Lib.hid (by rw [hW]; exact ((Below.refl _ _).alloc (Nat.le_refl _) _).alloc (by simp) _)
  have HF : Hid (Blk W w.heap.size 9 #[.string ⟨#[114, 101, 100]⟩]) := Lib.hid (by rw [hW]; exact (Blk.new _ _ _).alloc _)
  have HO : Hid (Blk W (w.heap.size + 1) 58 #[.string ⟨#[104, 97, 108, 108]⟩, .string ⟨#[]⟩, .string ⟨#[]⟩, .string ⟨#[]⟩, .bool false, .slice none 0 0, .slice none 0 0, .slice none 0 0, .slice none 0 0, .slice none 0 0]) := Lib.hid (by rw [hW]; exact Blk.new_at _ _ _ _ (by simp))
  go_enter Tryd.func9, Tryd.ntmps9
  go_wp2_with fail
  rw [← hW]
  clear hW
  have hnam : (Src.mk ⟨#[]⟩ ⟨#[]⟩ ⟨#[]⟩ 0 0 (some ⟨w.heap.size, 0, none⟩) 1 1 none 0 0 none 0 0 (some ⟨w.heap.size + 1, 0, none⟩) 1 1 none 0 0 none 0 0 none 0 0 none 0 0).Nam W W.heap.size awD1 := by
    refine ⟨⟨rfl, fun _ => ⟨_, rfl, HF.out.lt, fun j hj => ?_⟩⟩, RdX.nil _ _ _, RdX.nil _ _ _, ⟨rfl, fun _ => ⟨_, rfl, HO.out.lt, fun j hj => ?_⟩⟩, RdX.nil _ _ _, RdX.nil _ _ _, RdX.nil _ _ _⟩
    · have h0 : j = 0 := by have : j < 1 := hj; omega
      subst h0
      exact HF.out.cell 0
    · have h0 : j = 0 := by have : j < 1 := hj; omega
      subst h0
      exact HO.out.cell 0
  refine (pMake_any _ W awD1 (Fl.go HFL HBW) hnam (by decide) (by decide)).mono ?_
  clear hnam
  rintro e w1 ⟨A1, n1, c1, he, ho, hb⟩
  rw [aw_make1] at he ho
  obtain rfl : e = .returned (.tuple #[.slice A1 n1 c1, .agg #[.int .i64 0, .int .i64 0, .int .i64 0, .string ⟨#[]⟩]]) := he
  obtain rfl : n1 = 6 := (ownN_len ho).symm
  obtain ⟨g, c', hv, _, hgl⟩ := ho.form (by omega)
  obtain rfl : A1 = some ⟨g, 0, none⟩ := by injection hv
  have HOW := Lib.hid ho
  have HB1 := Lib.hid (HBW.out.trans (hb.mono HBW.out.size))
  clear ho hb hv hgl
  obtain ⟨V, hV⟩ : ∃ V, V = w1.alloc (.cells #[.int .i64 0, .int .i64 0, .int .i64 0, .string ⟨#[]⟩] 30) := ⟨_, rfl⟩
  have HKV : Hid (Blk V w1.heap.size 30 #[.int .i64 0, .int .i64 0, .int .i64 0, .string ⟨#[]⟩]) := Lib.hid (by rw [hV]; exact Blk.new _ _ _)
  have HSV : Hid (V.heap.size = w1.heap.size + 1) := Lib.hid (by rw [hV]; simp)
  have HBV : Hid (Below w.heap.size w V) := Lib.hid (by rw [hV]; exact HB1.out.alloc HB1.out.size _)
  have HOV := Lib.hid (own_below HOW.out (show Below w1.heap.size w1 V by rw [hV]; exact (Below.refl _ _).alloc (Nat.le_refl _) _))
  obtain ⟨U, hU⟩ : ∃ U, U = V.alloc (.cells #[.string ⟨#[111, 112, 101, 110]⟩, .string ⟨#[]⟩, .string ⟨#[]⟩, .string ⟨#[]⟩, .bool false, .slice none 0 0, .slice none 0 0, .slice none 0 0, .slice none 0 0, .slice none 0 0] 58) := ⟨_, rfl⟩
  have HOU : Hid (Blk U (w1.heap.size + 1) 58 #[.string ⟨#[111, 112, 101, 110]⟩, .string ⟨#[]⟩, .string ⟨#[]⟩, .string ⟨#[]⟩, .bool false, .slice none 0 0, .slice none 0 0, .slice none 0 0, .slice none 0 0, .slice none 0 0]) := Lib.hid (by rw [hU]; exact Blk.new_at _ _ _ _ HSV.out.symm)
  have HBU : Hid (Below w.heap.size w U) := Lib.hid (by rw [hU]; exact HBV.out.alloc HBV.out.size _)
  have HKU : Hid (Blk U w1.heap.size 30 #[.int .i64 0, .int .i64 0, .int .i64 0, .string ⟨#[]⟩]) := Lib.hid (by rw [hU]; exact HKV.out.alloc _)
  have HWU := Lib.hid (own_below HOV.out (show Below V.heap.size V U by rw [hU]; exact (Below.refl _ _).alloc (Nat.le_refl _) _))
  go_wp2_with fail
  rw [← hV, ← hU]
  clear hV hU HOV HKV HBV
  have hnam : (Src.mk ⟨#[]⟩ ⟨#[]⟩ ⟨#[]⟩ 0 0 none 0 0 none 0 0 none 0 0 (some ⟨w1.heap.size + 1, 0, none⟩) 1 1 none 0 0 none 0 0 none 0 0 none 0 0).Nam U U.heap.size awD2 := by
    refine ⟨RdX.nil _ _ _, RdX.nil _ _ _, RdX.nil _ _ _, ⟨rfl, fun _ => ⟨_, rfl, HOU.out.lt, fun j hj => ?_⟩⟩, RdX.nil _ _ _, RdX.nil _ _ _, RdX.nil _ _ _⟩
    have h0 : j = 0 := by have : j < 1 := hj; omega
    subst h0
    exact HOU.out.cell 0
  refine (pMake_any _ U awD2 (Fl.go HFL HBU) hnam (by decide) (by decide)).mono ?_
  clear hnam
  rintro e w2 ⟨A2, n2, c2, he, ho, hb⟩
  rw [aw_make2] at he ho
  obtain rfl : e = .returned (.tuple #[.slice A2 n2 c2, .agg #[.int .i64 10, .int .i64 5, .int .i64 0, .string ⟨#[111, 112, 101, 110]⟩]]) := he
  obtain rfl : n2 = 0 := (ownN_len ho).symm
  have HW2 := Lib.hid (own_below HWU.out hb)
  have HK2 := Lib.hid (HKU.out.below hb HKU.out.lt)
  have HB2 := Lib.hid (HBU.out.trans (hb.mono HBU.out.size))
  clear ho hb
  obtain ⟨T, hT⟩ : ∃ T, T = w2.alloc (.cells #[.int .i64 10, .int .i64 5, .int .i64 0, .string ⟨#[111, 112, 101, 110]⟩] 30) := ⟨_, rfl⟩
  have HGT : Hid (Blk T w2.heap.size 30 #[.int .i64 10, .int .i64 5, .int .i64 0, .string ⟨#[111, 112, 101, 110]⟩]) := Lib.hid (by rw [hT]; exact Blk.new _ _ _)
  have HBT : Hid (Below w.heap.size w T) := Lib.hid (by rw [hT]; exact HB2.out.alloc HB2.out.size _)
  have HKT : Hid (Blk T w1.heap.size 30 #[.int .i64 0, .int .i64 0, .int .i64 0, .string ⟨#[]⟩]) := Lib.hid (by rw [hT]; exact HK2.out.alloc _)
  have HWT := Lib.hid (own_below HW2.out (show Below w2.heap.size w2 T by rw [hT]; exact (Below.refl _ _).alloc (Nat.le_refl _) _))
  go_wp2_with fail
  rw [← hT]
  clear hT
  refine (pOf_any T _ 6 c1 awT 4 ⟨#[104, 97, 108, 108]⟩ (RdN.of_own HWT.out) (by decide) (by decide)).mono ?_
  rintro e w3 ⟨he, hb3⟩
  rw [show ofI awT 4 (ByteArray.mk #[104, 97, 108, 108]).data.toList = (2, 0) from aw_of] at he
  subst he
  have HB3 := Lib.hid (HBT.out.trans (hb3.mono HBT.out.size))
  have HW3 := Lib.hid (own_below HWT.out hb3)
  have HK3 := Lib.hid (HKT.out.below hb3 HKT.out.lt)
  have HG3 := Lib.hid (HGT.out.below hb3 HGT.out.lt)
  clear hb3
  have t0 : w3.cell? ⟨g, 15, none⟩ = some (.string ⟨#[114, 101, 100]⟩) := own_cell15 HW3.out 15 _ rfl
  have t1 : w3.cell? ⟨g, 16, none⟩ = some (.int .i64 1) := own_cell15 HW3.out 16 _ rfl
  have t2 : w3.cell? ⟨g, 17, none⟩ = some (.int .i64 4) := own_cell15 HW3.out 17 _ rfl
  have p0 : w3.cell? ⟨w1.heap.size, 0, none⟩ = some (.int .i64 0) := HK3.out.cell 0
  have p1 : w3.cell? ⟨w1.heap.size, 1, none⟩ = some (.int .i64 0) := HK3.out.cell 1
  have p2 : w3.cell? ⟨w1.heap.size, 2, none⟩ = some (.int .i64 0) := HK3.out.cell 2
  have p3 : w3.cell? ⟨w1.heap.size, 3, none⟩ = some (.string ⟨#[]⟩) := HK3.out.cell 3
  have q0 : w3.cell? ⟨w2.heap.size, 0, none⟩ = some (.int .i64 10) := HG3.out.cell 0
  have q1 : w3.cell? ⟨w2.heap.size, 1, none⟩ = some (.int .i64 5) := HG3.out.cell 1
  have q2 : w3.cell? ⟨w2.heap.size, 2, none⟩ = some (.int .i64 0) := HG3.out.cell 2
  have q3 : w3.cell? ⟨w2.heap.size, 3, none⟩ = some (.string ⟨#[111, 112, 101, 110]⟩) := HG3.out.cell 3
  have r0 : ∀ (x y : Operand) (W : World), (eqGuard .eql 45 x y (.agg #[.string ⟨#[114, 101, 100]⟩, .int .i64 1, .int .i64 4]) (.agg #[.string ⟨#[114, 101, 100]⟩, .int .i64 1, .int .i64 4])).run Tryd.prog W = .ok () W := fun x y W => guard_nm .eql x y ⟨[114, 101, 100], 1, 4⟩ ⟨[114, 101, 100], 1, 4⟩ W
  have s0 : ∀ W : World, (binOp .eql 45 (.agg #[.string ⟨#[114, 101, 100]⟩, .int .i64 1, .int .i64 4]) (.agg #[.string ⟨#[114, 101, 100]⟩, .int .i64 1, .int .i64 4])).run Tryd.prog W = .ok (.bool true) W := fun W => (run_eql_nm ⟨[114, 101, 100], 1, 4⟩ ⟨[114, 101, 100], 1, 4⟩ W).trans (by simp)
  have r1 : ∀ (x y : Operand) (W : World), (eqGuard .eql 30 x y (.agg #[.int .i64 0, .int .i64 0, .int .i64 0, .string ⟨#[]⟩]) (.agg #[.int .i64 0, .int .i64 0, .int .i64 0, .string ⟨#[]⟩])).run Tryd.prog W = .ok () W := fun x y W => guard_fau .eql x y (0, 0, 0, []) (0, 0, 0, []) W
  have s1 : ∀ W : World, (binOp .eql 30 (.agg #[.int .i64 0, .int .i64 0, .int .i64 0, .string ⟨#[]⟩]) (.agg #[.int .i64 0, .int .i64 0, .int .i64 0, .string ⟨#[]⟩])).run Tryd.prog W = .ok (.bool true) W := fun W => (run_eql_fau (0, 0, 0, []) (0, 0, 0, []) W).trans (by simp)
  have r2 : ∀ (x y : Operand) (W : World), (eqGuard .eql 30 x y (.agg #[.int .i64 10, .int .i64 5, .int .i64 0, .string ⟨#[111, 112, 101, 110]⟩]) (.agg #[.int .i64 10, .int .i64 5, .int .i64 0, .string ⟨#[111, 112, 101, 110]⟩])).run Tryd.prog W = .ok () W := fun x y W => guard_fau .eql x y (10, 5, 0, [111, 112, 101, 110]) (10, 5, 0, [111, 112, 101, 110]) W
  have s2 : ∀ W : World, (binOp .eql 30 (.agg #[.int .i64 10, .int .i64 5, .int .i64 0, .string ⟨#[111, 112, 101, 110]⟩]) (.agg #[.int .i64 10, .int .i64 5, .int .i64 0, .string ⟨#[111, 112, 101, 110]⟩])).run Tryd.prog W = .ok (.bool true) W := fun W => (run_eql_fau (10, 5, 0, [111, 112, 101, 110]) (10, 5, 0, [111, 112, 101, 110]) W).trans (by simp)
  go_wp2_with fail
  go_ret
  exact ⟨rfl, HB3.out⟩

end Go.Proofs.YtgeglhgkibcpfaaDoor
