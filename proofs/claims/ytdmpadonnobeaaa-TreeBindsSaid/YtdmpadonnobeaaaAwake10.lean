/- The statements' awake: the chapter's examples. -/
import Derived.Test.YtdmpadonnobeaaaTrfK
import Derived.Test.YtdmpadonnobeaaaTreU
import Derived.Test.YtdmpadonnobeaaaTreY
namespace Go.Proofs.Ytdmpadonnobeaaa
open Go.RowKit
set_option linter.unusedVariables false

theorem rowE_one {w : World} {g : Nat} {t : TypeId} {x : EL} (h : Blk w g t #[.int .i64 x.kind, .int .i64 x.op, .int .i64 x.num, .string (bs x.name), .slice x.A x.n x.c]) : RowE w w.heap.size (some ⟨g, 0, none⟩) 1 [x] := by
  refine ⟨rfl, by decide, fun _ => ⟨_, rfl, h.lt, fun j hj => ?_⟩⟩
  obtain rfl : j = 0 := by rw [List.length_singleton] at hj; omega
  exact ⟨h.cell 0, h.cell 1, h.cell 2, h.cell 3, h.cell 4⟩
theorem rowE_two {w : World} {g : Nat} {t : TypeId} {x y : EL} (h : Blk w g t #[.int .i64 x.kind, .int .i64 x.op, .int .i64 x.num, .string (bs x.name), .slice x.A x.n x.c, .int .i64 y.kind, .int .i64 y.op, .int .i64 y.num, .string (bs y.name), .slice y.A y.n y.c]) : RowE w w.heap.size (some ⟨g, 0, none⟩) 2 [x, y] := by
  refine ⟨rfl, by decide, fun _ => ⟨_, rfl, h.lt, fun j hj => ?_⟩⟩
  rw [show [x, y].length = 2 from rfl] at hj
  obtain rfl | rfl : j = 0 ∨ j = 1 := by omega
  · exact ⟨h.cell 0, h.cell 1, h.cell 2, h.cell 3, h.cell 4⟩
  · exact ⟨h.cell 5, h.cell 6, h.cell 7, h.cell 8, h.cell 9⟩
theorem rowS_one {w : World} {g : Nat} {t : TypeId} {x : SL} (h : Blk w g t #[.int .i64 x.kind, .int .i64 x.num, .string (bs x.name), .slice x.A x.n x.c, .slice x.A1 x.n1 x.c1, .slice x.A2 x.n2 x.c2]) : RowS6 w w.heap.size (some ⟨g, 0, none⟩) 1 [x] := by
  refine ⟨rfl, by decide, fun _ => ⟨_, rfl, h.lt, fun j hj => ?_⟩⟩
  obtain rfl : j = 0 := by rw [List.length_singleton] at hj; omega
  exact ⟨h.cell 0, h.cell 1, h.cell 2, h.cell 3, h.cell 4, h.cell 5⟩
theorem rowE_none (w : World) (B : Nat) : RowE w B none 0 [] := ⟨rfl, by decide, fun h => absurd h (Nat.lt_irrefl _)⟩
theorem rowS_none (w : World) (B : Nat) : RowS6 w B none 0 [] := ⟨rfl, by decide, fun h => absurd h (Nat.lt_irrefl _)⟩
theorem insE_nil (w : World) (B : Nat) : EL.Ins w B [] := EL.Ins.of fun x hx => absurd hx List.not_mem_nil
theorem insS_nil (w : World) (B : Nat) : SL.Ins w B [] := SL.Ins.of fun x hx => absurd hx List.not_mem_nil

def oneE : EL := .mk 1 0 1 [] none 0 0 []
def aE : EL := .mk 3 0 0 [97] none 0 0 []
def bE : EL := .mk 2 0 0 [98] none 0 0 []
def sumE (g : Nat) : EL := .mk 6 10 0 [] (some ⟨g, 0, none⟩) 2 2 [oneE, aE]
def abE (g : Nat) : EL := .mk 6 10 0 [] (some ⟨g, 0, none⟩) 2 2 [aE, bE]
def titleE (g : Nat) : EL := .mk 13 0 0 [] (some ⟨g, 0, none⟩) 1 1 [aE]
def sayS (g g' : Nat) : SL := .mk 1 0 [] (some ⟨g', 0, none⟩) 2 2 [bE, titleE g] none 0 0 [] none 0 0 []
def stopS : SL := .mk 13 0 [] none 0 0 [] none 0 0 [] none 0 0 []
def bothS (g g' : Nat) : SL := .mk 9 0 [] (some ⟨g, 0, none⟩) 1 1 [oneE] (some ⟨g', 0, none⟩) 1 1 [stopS] none 0 0 []
def glE (n : Int) : EL := .mk 14 0 n [] none 0 0 []
def awT (g : Nat) : TV := { t1 := 0, t2 := 0, t3 := 0, t4 := 0, S1 := none, m1 := 0, k1 := 0, fl := 0, S2 := none, m2 := 0, k2 := 0, S3 := some ⟨g, 0, none⟩, m3 := 2, k3 := 2, S4 := none, m4 := 0, k4 := 0, S5 := none, m5 := 0, k5 := 0, S6 := none, m6 := 0, k6 := 0, S7 := none, m7 := 0, k7 := 0, S8 := none, m8 := 0, k8 := 0, S9 := none, m9 := 0, k9 := 0, S10 := none, m10 := 0, k10 := 0, fs := [], ps := [] }

theorem leafE_in (w : World) (B : Nat) (k o m : Int) (s : List UInt8) (hm : -9223372036854775808 ≤ m ∧ m ≤ 9223372036854775807) (hs : (s.length : Int) ≤ 9223372036854775807) : (EL.mk k o m s none 0 0 []).In w B := by
  unfold EL.In
  exact ⟨⟨hm, hs, rowE_none w B⟩, insE_nil w B⟩
theorem oneE_in (w : World) (B : Nat) : oneE.In w B := leafE_in w B 1 0 1 [] (by decide) (by decide)
theorem aE_in (w : World) (B : Nat) : aE.In w B := leafE_in w B 3 0 0 [97] (by decide) (by decide)
theorem bE_in (w : World) (B : Nat) : bE.In w B := leafE_in w B 2 0 0 [98] (by decide) (by decide)
theorem glE_in (w : World) (B : Nat) (n : Int) (h : -9223372036854775808 ≤ n ∧ n ≤ 9223372036854775807) : (glE n).In w B := leafE_in w B 14 0 n [] h (by decide)
theorem two_in {w : World} {B g : Nat} {x y : EL} (hr : RowE w B (some ⟨g, 0, none⟩) 2 [x, y]) (hx : x.In w B) (hy : y.In w B) : (EL.mk 6 10 0 [] (some ⟨g, 0, none⟩) 2 2 [x, y]).In w B := by
  unfold EL.In
  refine ⟨⟨by decide, by decide, hr⟩, EL.Ins.of fun z hz => ?_⟩
  rcases List.mem_cons.1 hz with rfl | hz
  · exact hx
  · rw [List.mem_singleton] at hz; subst hz; exact hy
theorem titleE_in {w : World} {B g : Nat} (hr : RowE w B (some ⟨g, 0, none⟩) 1 [aE]) : (titleE g).In w B := by
  unfold titleE EL.In
  refine ⟨⟨by decide, by decide, hr⟩, EL.Ins.of fun z hz => ?_⟩
  rw [List.mem_singleton] at hz
  subst hz
  exact aE_in w B
theorem sayS_in {w : World} {B g g' : Nat} (hr : RowE w B (some ⟨g, 0, none⟩) 1 [aE]) (hr' : RowE w B (some ⟨g', 0, none⟩) 2 [bE, titleE g]) : (sayS g g').In w B := by
  refine SL.In.mk ⟨⟨show (-9223372036854775808 ≤ (0 : Int) ∧ (0 : Int) ≤ 9223372036854775807) from by decide, show (((List.nil : List UInt8).length : Nat) : Int) ≤ 9223372036854775807 from by decide, ⟨hr', EL.Ins.of fun z hz => ?_⟩, rowS_none w B, rowS_none w B⟩, insS_nil w B, insS_nil w B⟩
  rcases List.mem_cons.1 hz with rfl | hz
  · exact bE_in w B
  · rw [List.mem_singleton] at hz; subst hz; exact titleE_in hr
theorem stopS_in (w : World) (B : Nat) : stopS.In w B := SL.In.mk ⟨⟨by decide, by decide, ⟨rowE_none w B, insE_nil w B⟩, rowS_none w B, rowS_none w B⟩, insS_nil w B, insS_nil w B⟩
theorem bothS_in {w : World} {B g g' : Nat} (hr : RowE w B (some ⟨g, 0, none⟩) 1 [oneE]) (hr' : RowS6 w B (some ⟨g', 0, none⟩) 1 [stopS]) : (bothS g g').In w B := by
  refine SL.In.mk ⟨⟨show (-9223372036854775808 ≤ (0 : Int) ∧ (0 : Int) ≤ 9223372036854775807) from by decide, show (((List.nil : List UInt8).length : Nat) : Int) ≤ 9223372036854775807 from by decide, ⟨hr, EL.Ins.of fun z hz => ?_⟩, hr', rowS_none w B⟩, SL.Ins.of fun z hz => ?_, insS_nil w B⟩
  · obtain rfl : z = oneE := List.mem_singleton.1 hz; exact oneE_in w B
  · obtain rfl : z = stopS := List.mem_singleton.1 hz; exact stopS_in w B
theorem awT_in (w : World) (B g : Nat) : (awT g).In w B := ⟨⟨show ((0 : Nat) : Int) ≤ 9223372036854775807 from by decide, show ((0 : Nat) : Int) ≤ 9223372036854775807 from by decide, show ((2 : Nat) : Int) ≤ 9223372036854775807 from by decide, show ((0 : Nat) : Int) ≤ 9223372036854775807 from by decide, show ((0 : Nat) : Int) ≤ 9223372036854775807 from by decide, show ((0 : Nat) : Int) ≤ 9223372036854775807 from by decide⟩, RdI.none_ w B, RdI.none_ w B⟩

theorem aw_r1 (g : Nat) : vE srcE 2 32 (sumE g) = true := by kernel_rfl
theorem aw_r2 (g : Nat) : vE srcE 2 32 (abE g) = false := by kernel_rfl
theorem aw_r3 (g g' : Nat) : vB srcE srcS (fun s => (0, s.name)) 2 9 32 [sayS g g'] = true := by kernel_rfl
theorem aw_s1 (g : Nat) : sizeE (sumE g) = 3 := by kernel_rfl
theorem aw_d1 (g : Nat) : min 65 (depE (sumE g)) = 2 := by kernel_rfl
theorem aw_s2 (g g' : Nat) : sizeSs [bothS g g'] = 2 := by kernel_rfl
theorem aw_d2 (g g' : Nat) : min 65 (depSs [bothS g g']) = 2 := by kernel_rfl
theorem aw_b1 (g : Nat) : vE (bkE (awT g).tb 0) 19 32 (glE 1) = true := by kernel_rfl
theorem aw_b2 (g : Nat) : vE (bkE (awT g).tb 0) 19 32 (glE 2) = false := by kernel_rfl
theorem aw_e2 : sameE aE bE = false := by kernel_rfl

set_option maxRecDepth 100000 in
set_option maxHeartbeats 12800000 in
theorem awake_any (w : World) : Calls Try.prog 10 #[] w fun e w' => e = .returned (.bool true) ∧ Below w.heap.size w w' := by
  obtain ⟨W, hW⟩ : ∃ W, W = (((((((((((((w.alloc (.cells #[.int .i64 1, .int .i64 0, .int .i64 1, .string ⟨#[]⟩, .slice none 0 0] 24)).alloc (.cells #[.int .i64 3, .int .i64 0, .int .i64 0, .string ⟨#[97]⟩, .slice none 0 0] 24)).alloc (.cells #[.int .i64 2, .int .i64 0, .int .i64 0, .string ⟨#[98]⟩, .slice none 0 0] 24)).alloc (.cells #[.int .i64 1, .int .i64 0, .int .i64 1, .string ⟨#[]⟩, .slice none 0 0, .int .i64 3, .int .i64 0, .int .i64 0, .string ⟨#[97]⟩, .slice none 0 0] 24)).alloc (.cells #[.int .i64 6, .int .i64 10, .int .i64 0, .string ⟨#[]⟩, .slice (some ⟨w.heap.size + 1 + 1 + 1, 0, none⟩) 2 2] 24)).alloc (.cells #[.int .i64 3, .int .i64 0, .int .i64 0, .string ⟨#[97]⟩, .slice none 0 0] 24)).alloc (.cells #[.int .i64 2, .int .i64 0, .int .i64 0, .string ⟨#[98]⟩, .slice none 0 0, .int .i64 13, .int .i64 0, .int .i64 0, .string ⟨#[]⟩, .slice (some ⟨w.heap.size + 1 + 1 + 1 + 1 + 1, 0, none⟩) 1 1] 24)).alloc (.cells #[.int .i64 1, .int .i64 0, .string ⟨#[]⟩, .slice (some ⟨w.heap.size + 1 + 1 + 1 + 1 + 1 + 1, 0, none⟩) 2 2, .slice none 0 0, .slice none 0 0] 47)).alloc (.cells #[.int .i64 1, .int .i64 0, .int .i64 1, .string ⟨#[]⟩, .slice none 0 0] 24)).alloc (.cells #[.int .i64 13, .int .i64 0, .string ⟨#[]⟩, .slice none 0 0, .slice none 0 0, .slice none 0 0] 47)).alloc (.cells #[.int .i64 9, .int .i64 0, .string ⟨#[]⟩, .slice (some ⟨w.heap.size + 1 + 1 + 1 + 1 + 1 + 1 + 1 + 1, 0, none⟩) 1 1, .slice (some ⟨w.heap.size + 1 + 1 + 1 + 1 + 1 + 1 + 1 + 1 + 1, 0, none⟩) 1 1, .slice none 0 0] 47)).alloc (.cells #[.int .i64 7, .int .i64 8] 3)).alloc (.cells #[.int .i64 0, .int .i64 0, .int .i64 0, .int .i64 0, .slice none 0 0, .int .i64 0, .slice none 0 0, .slice (some ⟨w.heap.size + 1 + 1 + 1 + 1 + 1 + 1 + 1 + 1 + 1 + 1 + 1, 0, none⟩) 2 2, .slice none 0 0, .slice none 0 0, .slice none 0 0, .slice none 0 0, .slice none 0 0, .slice none 0 0, .slice none 0 0] 37)) := ⟨_, rfl⟩
  have HW : Hid (Below w.heap.size w W) := Lib.hid (by rw [hW]; exact ((((((((((((((Below.refl w.heap.size w).alloc (by simp; try omega) _).alloc (by simp; try omega) _).alloc (by simp; try omega) _).alloc (by simp; try omega) _).alloc (by simp; try omega) _).alloc (by simp; try omega) _).alloc (by simp; try omega) _).alloc (by simp; try omega) _).alloc (by simp; try omega) _).alloc (by simp; try omega) _).alloc (by simp; try omega) _).alloc (by simp; try omega) _).alloc (by simp; try omega) _))
  have hb0 : Blk W (w.heap.size) 24 #[.int .i64 1, .int .i64 0, .int .i64 1, .string ⟨#[]⟩, .slice none 0 0] := by rw [hW]; exact ((((((((((((Blk.new_at _ _ _ (w.heap.size) (by simp)).alloc _).alloc _).alloc _).alloc _).alloc _).alloc _).alloc _).alloc _).alloc _).alloc _).alloc _).alloc _
  have hb1 : Blk W (w.heap.size + 1) 24 #[.int .i64 3, .int .i64 0, .int .i64 0, .string ⟨#[97]⟩, .slice none 0 0] := by rw [hW]; exact (((((((((((Blk.new_at _ _ _ (w.heap.size + 1) (by simp)).alloc _).alloc _).alloc _).alloc _).alloc _).alloc _).alloc _).alloc _).alloc _).alloc _).alloc _
  have hb2 : Blk W (w.heap.size + 1 + 1) 24 #[.int .i64 2, .int .i64 0, .int .i64 0, .string ⟨#[98]⟩, .slice none 0 0] := by rw [hW]; exact ((((((((((Blk.new_at _ _ _ (w.heap.size + 1 + 1) (by simp)).alloc _).alloc _).alloc _).alloc _).alloc _).alloc _).alloc _).alloc _).alloc _).alloc _
  have hb3 : Blk W (w.heap.size + 1 + 1 + 1) 24 #[.int .i64 1, .int .i64 0, .int .i64 1, .string ⟨#[]⟩, .slice none 0 0, .int .i64 3, .int .i64 0, .int .i64 0, .string ⟨#[97]⟩, .slice none 0 0] := by rw [hW]; exact (((((((((Blk.new_at _ _ _ (w.heap.size + 1 + 1 + 1) (by simp)).alloc _).alloc _).alloc _).alloc _).alloc _).alloc _).alloc _).alloc _).alloc _
  have hb4 : Blk W (w.heap.size + 1 + 1 + 1 + 1) 24 #[.int .i64 6, .int .i64 10, .int .i64 0, .string ⟨#[]⟩, .slice (some ⟨w.heap.size + 1 + 1 + 1, 0, none⟩) 2 2] := by rw [hW]; exact ((((((((Blk.new_at _ _ _ (w.heap.size + 1 + 1 + 1 + 1) (by simp)).alloc _).alloc _).alloc _).alloc _).alloc _).alloc _).alloc _).alloc _
  have hb5 : Blk W (w.heap.size + 1 + 1 + 1 + 1 + 1) 24 #[.int .i64 3, .int .i64 0, .int .i64 0, .string ⟨#[97]⟩, .slice none 0 0] := by rw [hW]; exact (((((((Blk.new_at _ _ _ (w.heap.size + 1 + 1 + 1 + 1 + 1) (by simp)).alloc _).alloc _).alloc _).alloc _).alloc _).alloc _).alloc _
  have hb6 : Blk W (w.heap.size + 1 + 1 + 1 + 1 + 1 + 1) 24 #[.int .i64 2, .int .i64 0, .int .i64 0, .string ⟨#[98]⟩, .slice none 0 0, .int .i64 13, .int .i64 0, .int .i64 0, .string ⟨#[]⟩, .slice (some ⟨w.heap.size + 1 + 1 + 1 + 1 + 1, 0, none⟩) 1 1] := by rw [hW]; exact ((((((Blk.new_at _ _ _ (w.heap.size + 1 + 1 + 1 + 1 + 1 + 1) (by simp)).alloc _).alloc _).alloc _).alloc _).alloc _).alloc _
  have hb7 : Blk W (w.heap.size + 1 + 1 + 1 + 1 + 1 + 1 + 1) 47 #[.int .i64 1, .int .i64 0, .string ⟨#[]⟩, .slice (some ⟨w.heap.size + 1 + 1 + 1 + 1 + 1 + 1, 0, none⟩) 2 2, .slice none 0 0, .slice none 0 0] := by rw [hW]; exact (((((Blk.new_at _ _ _ (w.heap.size + 1 + 1 + 1 + 1 + 1 + 1 + 1) (by simp)).alloc _).alloc _).alloc _).alloc _).alloc _
  have hb8 : Blk W (w.heap.size + 1 + 1 + 1 + 1 + 1 + 1 + 1 + 1) 24 #[.int .i64 1, .int .i64 0, .int .i64 1, .string ⟨#[]⟩, .slice none 0 0] := by rw [hW]; exact ((((Blk.new_at _ _ _ (w.heap.size + 1 + 1 + 1 + 1 + 1 + 1 + 1 + 1) (by simp)).alloc _).alloc _).alloc _).alloc _
  have hb9 : Blk W (w.heap.size + 1 + 1 + 1 + 1 + 1 + 1 + 1 + 1 + 1) 47 #[.int .i64 13, .int .i64 0, .string ⟨#[]⟩, .slice none 0 0, .slice none 0 0, .slice none 0 0] := by rw [hW]; exact (((Blk.new_at _ _ _ (w.heap.size + 1 + 1 + 1 + 1 + 1 + 1 + 1 + 1 + 1) (by simp)).alloc _).alloc _).alloc _
  have hb10 : Blk W (w.heap.size + 1 + 1 + 1 + 1 + 1 + 1 + 1 + 1 + 1 + 1) 47 #[.int .i64 9, .int .i64 0, .string ⟨#[]⟩, .slice (some ⟨w.heap.size + 1 + 1 + 1 + 1 + 1 + 1 + 1 + 1, 0, none⟩) 1 1, .slice (some ⟨w.heap.size + 1 + 1 + 1 + 1 + 1 + 1 + 1 + 1 + 1, 0, none⟩) 1 1, .slice none 0 0] := by rw [hW]; exact ((Blk.new_at _ _ _ (w.heap.size + 1 + 1 + 1 + 1 + 1 + 1 + 1 + 1 + 1 + 1) (by simp)).alloc _).alloc _
  have hb11 : Blk W (w.heap.size + 1 + 1 + 1 + 1 + 1 + 1 + 1 + 1 + 1 + 1 + 1) 3 #[.int .i64 7, .int .i64 8] := by rw [hW]; exact (Blk.new_at _ _ _ (w.heap.size + 1 + 1 + 1 + 1 + 1 + 1 + 1 + 1 + 1 + 1 + 1) (by simp)).alloc _
  have hb12 : Blk W (w.heap.size + 1 + 1 + 1 + 1 + 1 + 1 + 1 + 1 + 1 + 1 + 1 + 1) 37 #[.int .i64 0, .int .i64 0, .int .i64 0, .int .i64 0, .slice none 0 0, .int .i64 0, .slice none 0 0, .slice (some ⟨w.heap.size + 1 + 1 + 1 + 1 + 1 + 1 + 1 + 1 + 1 + 1 + 1, 0, none⟩) 2 2, .slice none 0 0, .slice none 0 0, .slice none 0 0, .slice none 0 0, .slice none 0 0, .slice none 0 0, .slice none 0 0] := by rw [hW]; exact Blk.new_at _ _ _ (w.heap.size + 1 + 1 + 1 + 1 + 1 + 1 + 1 + 1 + 1 + 1 + 1 + 1) (by simp)
  have HB0 := Lib.hid hb0
  have HB1 := Lib.hid hb1
  have HB2 := Lib.hid hb2
  have HB3 := Lib.hid hb3
  have HB4 := Lib.hid hb4
  have HB5 := Lib.hid hb5
  have HB6 := Lib.hid hb6
  have HB7 := Lib.hid hb7
  have HB8 := Lib.hid hb8
  have HB9 := Lib.hid hb9
  have HB10 := Lib.hid hb10
  have HB11 := Lib.hid hb11
  have HB12 := Lib.hid hb12
  have HSUM : Hid (∀ u : World, Below W.heap.size W u → (sumE (w.heap.size + 1 + 1 + 1)).In u u.heap.size) := Lib.hid (fun u hb => two_in (rowE_two (x := oneE) (y := aE) (hb3.below hb hb3.lt)) (oneE_in _ _) (aE_in _ _))
  have HSAY : Hid (∀ u : World, Below W.heap.size W u → RowS6 u u.heap.size (some ⟨w.heap.size + 1 + 1 + 1 + 1 + 1 + 1 + 1, 0, none⟩) 1 [sayS (w.heap.size + 1 + 1 + 1 + 1 + 1) (w.heap.size + 1 + 1 + 1 + 1 + 1 + 1)] ∧ SL.Ins u u.heap.size [sayS (w.heap.size + 1 + 1 + 1 + 1 + 1) (w.heap.size + 1 + 1 + 1 + 1 + 1 + 1)]) := Lib.hid (fun u hb => ⟨rowS_one (x := sayS (w.heap.size + 1 + 1 + 1 + 1 + 1) (w.heap.size + 1 + 1 + 1 + 1 + 1 + 1)) (hb7.below hb hb7.lt), SL.Ins.of fun z hz => by
    rw [List.mem_singleton] at hz
    subst hz
    exact sayS_in (rowE_one (x := aE) (hb5.below hb hb5.lt)) (rowE_two (x := bE) (y := titleE (w.heap.size + 1 + 1 + 1 + 1 + 1)) (hb6.below hb hb6.lt))⟩)
  have HBOTH : Hid (∀ u : World, Below W.heap.size W u → RowS6 u u.heap.size (some ⟨w.heap.size + 1 + 1 + 1 + 1 + 1 + 1 + 1 + 1 + 1 + 1, 0, none⟩) 1 [bothS (w.heap.size + 1 + 1 + 1 + 1 + 1 + 1 + 1 + 1) (w.heap.size + 1 + 1 + 1 + 1 + 1 + 1 + 1 + 1 + 1)] ∧ SL.Ins u u.heap.size [bothS (w.heap.size + 1 + 1 + 1 + 1 + 1 + 1 + 1 + 1) (w.heap.size + 1 + 1 + 1 + 1 + 1 + 1 + 1 + 1 + 1)]) := Lib.hid (fun u hb => ⟨rowS_one (x := bothS (w.heap.size + 1 + 1 + 1 + 1 + 1 + 1 + 1 + 1) (w.heap.size + 1 + 1 + 1 + 1 + 1 + 1 + 1 + 1 + 1)) (hb10.below hb hb10.lt), SL.Ins.of fun z hz => by
    rw [List.mem_singleton] at hz
    subst hz
    exact bothS_in (rowE_one (x := oneE) (hb8.below hb hb8.lt)) (rowS_one (x := stopS) (hb9.below hb hb9.lt))⟩)
  clear hb0 hb1 hb2 hb3 hb4 hb5 hb6 hb7 hb8 hb9 hb10 hb11 hb12
  go_enter Try.func10, Try.ntmps10
  go_wp2_with fail
  rw [← hW]
  clear hW
  refine (tRight_vE (sumE (w.heap.size + 1 + 1 + 1)) W (HSUM.out W (Below.refl _ _))).mono ?_
  rintro f w1 ⟨rfl, hb1⟩
  rw [aw_r1]
  have HX1 : Hid (Below W.heap.size W w1) := Lib.hid hb1
  clear hb1
  have q0 : w1.cell? ⟨w.heap.size + 1 + 1 + 1 + 1, 0, none⟩ = some (.int .i64 6) := (HB4.out.below HX1.out HB4.out.lt).cell 0
  have q1 : w1.cell? ⟨w.heap.size + 1 + 1 + 1 + 1, 1, none⟩ = some (.int .i64 10) := (HB4.out.below HX1.out HB4.out.lt).cell 1
  have q2 : w1.cell? ⟨w.heap.size + 1 + 1 + 1 + 1, 2, none⟩ = some (.int .i64 0) := (HB4.out.below HX1.out HB4.out.lt).cell 2
  have q3 : w1.cell? ⟨w.heap.size + 1 + 1 + 1 + 1, 3, none⟩ = some (.string ⟨#[]⟩) := (HB4.out.below HX1.out HB4.out.lt).cell 3
  have q4 : w1.cell? ⟨w.heap.size + 1 + 1 + 1 + 1, 4, none⟩ = some (.slice (some ⟨w.heap.size + 1 + 1 + 1, 0, none⟩) 2 2) := (HB4.out.below HX1.out HB4.out.lt).cell 4
  go_wp2_with fail
  clear q0 q1 q2 q3 q4
  refine (tSize_any (sumE (w.heap.size + 1 + 1 + 1)) (by rw [aw_s1]; decide) w1 (HSUM.out w1 HX1.out)).mono ?_
  rintro f w2 ⟨rfl, hb2⟩
  rw [aw_s1]
  have HX2 : Hid (Below W.heap.size W w2) := Lib.hid (HX1.out.trans (hb2.mono HX1.out.size))
  clear hb2
  have q0 : w2.cell? ⟨w.heap.size + 1 + 1 + 1 + 1, 0, none⟩ = some (.int .i64 6) := (HB4.out.below HX2.out HB4.out.lt).cell 0
  have q1 : w2.cell? ⟨w.heap.size + 1 + 1 + 1 + 1, 1, none⟩ = some (.int .i64 10) := (HB4.out.below HX2.out HB4.out.lt).cell 1
  have q2 : w2.cell? ⟨w.heap.size + 1 + 1 + 1 + 1, 2, none⟩ = some (.int .i64 0) := (HB4.out.below HX2.out HB4.out.lt).cell 2
  have q3 : w2.cell? ⟨w.heap.size + 1 + 1 + 1 + 1, 3, none⟩ = some (.string ⟨#[]⟩) := (HB4.out.below HX2.out HB4.out.lt).cell 3
  have q4 : w2.cell? ⟨w.heap.size + 1 + 1 + 1 + 1, 4, none⟩ = some (.slice (some ⟨w.heap.size + 1 + 1 + 1, 0, none⟩) 2 2) := (HB4.out.below HX2.out HB4.out.lt).cell 4
  go_wp2_with fail
  clear q0 q1 q2 q3 q4
  refine (tDepth_any (sumE (w.heap.size + 1 + 1 + 1)) w2 (HSUM.out w2 HX2.out)).mono ?_
  rintro f w3 ⟨rfl, hb3⟩
  rw [aw_d1]
  have HX3 : Hid (Below W.heap.size W w3) := Lib.hid (HX2.out.trans (hb3.mono HX2.out.size))
  clear hb3
  have q0 : w3.cell? ⟨w.heap.size + 1, 0, none⟩ = some (.int .i64 3) := (HB1.out.below HX3.out HB1.out.lt).cell 0
  have q1 : w3.cell? ⟨w.heap.size + 1, 1, none⟩ = some (.int .i64 0) := (HB1.out.below HX3.out HB1.out.lt).cell 1
  have q2 : w3.cell? ⟨w.heap.size + 1, 2, none⟩ = some (.int .i64 0) := (HB1.out.below HX3.out HB1.out.lt).cell 2
  have q3 : w3.cell? ⟨w.heap.size + 1, 3, none⟩ = some (.string ⟨#[97]⟩) := (HB1.out.below HX3.out HB1.out.lt).cell 3
  have q4 : w3.cell? ⟨w.heap.size + 1, 4, none⟩ = some (.slice none 0 0) := (HB1.out.below HX3.out HB1.out.lt).cell 4
  have r0 : w3.cell? ⟨w.heap.size + 1 + 1, 0, none⟩ = some (.int .i64 2) := (HB2.out.below HX3.out HB2.out.lt).cell 0
  have r1 : w3.cell? ⟨w.heap.size + 1 + 1, 1, none⟩ = some (.int .i64 0) := (HB2.out.below HX3.out HB2.out.lt).cell 1
  have r2 : w3.cell? ⟨w.heap.size + 1 + 1, 2, none⟩ = some (.int .i64 0) := (HB2.out.below HX3.out HB2.out.lt).cell 2
  have r3 : w3.cell? ⟨w.heap.size + 1 + 1, 3, none⟩ = some (.string ⟨#[98]⟩) := (HB2.out.below HX3.out HB2.out.lt).cell 3
  have r4 : w3.cell? ⟨w.heap.size + 1 + 1, 4, none⟩ = some (.slice none 0 0) := (HB2.out.below HX3.out HB2.out.lt).cell 4
  go_wp2_with fail
  clear q0 q1 q2 q3 q4
  clear r0 r1 r2 r3 r4
  obtain ⟨V, hV⟩ : ∃ V, V = w3.alloc (.cells #[.int .i64 3, .int .i64 0, .int .i64 0, .string ⟨#[97]⟩, .slice none 0 0, .int .i64 2, .int .i64 0, .int .i64 0, .string ⟨#[98]⟩, .slice none 0 0] 24) := ⟨_, rfl⟩
  have HV : Hid (Below W.heap.size W V) := Lib.hid (by rw [hV]; exact HX3.out.alloc HX3.out.size _)
  have hbv : Blk V w3.heap.size 24 #[.int .i64 3, .int .i64 0, .int .i64 0, .string ⟨#[97]⟩, .slice none 0 0, .int .i64 2, .int .i64 0, .int .i64 0, .string ⟨#[98]⟩, .slice none 0 0] := by rw [hV]; exact Blk.new _ _ _
  have HIN : Hid ((abE w3.heap.size).In V V.heap.size) := Lib.hid (two_in (rowE_two (x := aE) (y := bE) hbv) (aE_in _ _) (bE_in _ _))
  rw [← hV]
  clear hV hbv
  refine (tRight_vE (abE w3.heap.size) V HIN.out).mono ?_
  rintro f w4 ⟨rfl, hb4⟩
  rw [aw_r2]
  have HX4 : Hid (Below W.heap.size W w4) := Lib.hid (HV.out.trans (hb4.mono HV.out.size))
  clear hb4
  go_wp2_with fail
  refine (tRightBlock_vB [sayS (w.heap.size + 1 + 1 + 1 + 1 + 1) (w.heap.size + 1 + 1 + 1 + 1 + 1 + 1)] _ 1 1 w4 (HSAY.out w4 HX4.out).1 (HSAY.out w4 HX4.out).2).mono ?_
  rintro f w5 ⟨rfl, hb5⟩
  rw [aw_r3]
  have HX5 : Hid (Below W.heap.size W w5) := Lib.hid (HX4.out.trans (hb5.mono HX4.out.size))
  clear hb5
  go_wp2_with fail
  refine (tSizeBlock_any 2 (by decide) [bothS (w.heap.size + 1 + 1 + 1 + 1 + 1 + 1 + 1 + 1) (w.heap.size + 1 + 1 + 1 + 1 + 1 + 1 + 1 + 1 + 1)] _ 1 1 w5 (by rw [aw_s2]; decide) (HBOTH.out w5 HX5.out).1 (HBOTH.out w5 HX5.out).2).mono ?_
  rintro f w6 ⟨rfl, hb6⟩
  rw [aw_s2]
  have HX6 : Hid (Below W.heap.size W w6) := Lib.hid (HX5.out.trans (hb6.mono HX5.out.size))
  clear hb6
  go_wp2_with fail
  refine (tDepthBlock_any [bothS (w.heap.size + 1 + 1 + 1 + 1 + 1 + 1 + 1 + 1) (w.heap.size + 1 + 1 + 1 + 1 + 1 + 1 + 1 + 1 + 1)] _ 1 1 w6 (HBOTH.out w6 HX6.out).1 (HBOTH.out w6 HX6.out).2).mono ?_
  rintro f w7 ⟨rfl, hb7⟩
  rw [aw_d2]
  have HX7 : Hid (Below W.heap.size W w7) := Lib.hid (HX6.out.trans (hb7.mono HX6.out.size))
  clear hb7
  have q0 : w7.cell? ⟨w.heap.size + 1 + 1 + 1 + 1 + 1 + 1 + 1 + 1 + 1 + 1 + 1 + 1, 0, none⟩ = some (.int .i64 0) := (HB12.out.below HX7.out HB12.out.lt).cell 0
  have q1 : w7.cell? ⟨w.heap.size + 1 + 1 + 1 + 1 + 1 + 1 + 1 + 1 + 1 + 1 + 1 + 1, 1, none⟩ = some (.int .i64 0) := (HB12.out.below HX7.out HB12.out.lt).cell 1
  have q2 : w7.cell? ⟨w.heap.size + 1 + 1 + 1 + 1 + 1 + 1 + 1 + 1 + 1 + 1 + 1 + 1, 2, none⟩ = some (.int .i64 0) := (HB12.out.below HX7.out HB12.out.lt).cell 2
  have q3 : w7.cell? ⟨w.heap.size + 1 + 1 + 1 + 1 + 1 + 1 + 1 + 1 + 1 + 1 + 1 + 1, 3, none⟩ = some (.int .i64 0) := (HB12.out.below HX7.out HB12.out.lt).cell 3
  have q4 : w7.cell? ⟨w.heap.size + 1 + 1 + 1 + 1 + 1 + 1 + 1 + 1 + 1 + 1 + 1 + 1, 4, none⟩ = some (.slice none 0 0) := (HB12.out.below HX7.out HB12.out.lt).cell 4
  have q5 : w7.cell? ⟨w.heap.size + 1 + 1 + 1 + 1 + 1 + 1 + 1 + 1 + 1 + 1 + 1 + 1, 5, none⟩ = some (.int .i64 0) := (HB12.out.below HX7.out HB12.out.lt).cell 5
  have q6 : w7.cell? ⟨w.heap.size + 1 + 1 + 1 + 1 + 1 + 1 + 1 + 1 + 1 + 1 + 1 + 1, 6, none⟩ = some (.slice none 0 0) := (HB12.out.below HX7.out HB12.out.lt).cell 6
  have q7 : w7.cell? ⟨w.heap.size + 1 + 1 + 1 + 1 + 1 + 1 + 1 + 1 + 1 + 1 + 1 + 1, 7, none⟩ = some (.slice (some ⟨w.heap.size + 1 + 1 + 1 + 1 + 1 + 1 + 1 + 1 + 1 + 1 + 1, 0, none⟩) 2 2) := (HB12.out.below HX7.out HB12.out.lt).cell 7
  have q8 : w7.cell? ⟨w.heap.size + 1 + 1 + 1 + 1 + 1 + 1 + 1 + 1 + 1 + 1 + 1 + 1, 8, none⟩ = some (.slice none 0 0) := (HB12.out.below HX7.out HB12.out.lt).cell 8
  have q9 : w7.cell? ⟨w.heap.size + 1 + 1 + 1 + 1 + 1 + 1 + 1 + 1 + 1 + 1 + 1 + 1, 9, none⟩ = some (.slice none 0 0) := (HB12.out.below HX7.out HB12.out.lt).cell 9
  have q10 : w7.cell? ⟨w.heap.size + 1 + 1 + 1 + 1 + 1 + 1 + 1 + 1 + 1 + 1 + 1 + 1, 10, none⟩ = some (.slice none 0 0) := (HB12.out.below HX7.out HB12.out.lt).cell 10
  have q11 : w7.cell? ⟨w.heap.size + 1 + 1 + 1 + 1 + 1 + 1 + 1 + 1 + 1 + 1 + 1 + 1, 11, none⟩ = some (.slice none 0 0) := (HB12.out.below HX7.out HB12.out.lt).cell 11
  have q12 : w7.cell? ⟨w.heap.size + 1 + 1 + 1 + 1 + 1 + 1 + 1 + 1 + 1 + 1 + 1 + 1, 12, none⟩ = some (.slice none 0 0) := (HB12.out.below HX7.out HB12.out.lt).cell 12
  have q13 : w7.cell? ⟨w.heap.size + 1 + 1 + 1 + 1 + 1 + 1 + 1 + 1 + 1 + 1 + 1 + 1, 13, none⟩ = some (.slice none 0 0) := (HB12.out.below HX7.out HB12.out.lt).cell 13
  have q14 : w7.cell? ⟨w.heap.size + 1 + 1 + 1 + 1 + 1 + 1 + 1 + 1 + 1 + 1 + 1 + 1, 14, none⟩ = some (.slice none 0 0) := (HB12.out.below HX7.out HB12.out.lt).cell 14
  go_wp2_with fail
  clear q0 q1 q2 q3 q4 q5 q6 q7 q8 q9 q10 q11 q12 q13 q14
  refine (tBound_vE (awT (w.heap.size + 1 + 1 + 1 + 1 + 1 + 1 + 1 + 1 + 1 + 1 + 1)) 0 (by decide) (glE 1) w7 (awT_in _ _ _) (glE_in _ _ _ (by decide))).mono ?_
  rintro f w8 ⟨rfl, hb8⟩
  rw [aw_b1]
  have HX8 : Hid (Below W.heap.size W w8) := Lib.hid (HX7.out.trans (hb8.mono HX7.out.size))
  clear hb8
  have q0 : w8.cell? ⟨w.heap.size + 1 + 1 + 1 + 1 + 1 + 1 + 1 + 1 + 1 + 1 + 1 + 1, 0, none⟩ = some (.int .i64 0) := (HB12.out.below HX8.out HB12.out.lt).cell 0
  have q1 : w8.cell? ⟨w.heap.size + 1 + 1 + 1 + 1 + 1 + 1 + 1 + 1 + 1 + 1 + 1 + 1, 1, none⟩ = some (.int .i64 0) := (HB12.out.below HX8.out HB12.out.lt).cell 1
  have q2 : w8.cell? ⟨w.heap.size + 1 + 1 + 1 + 1 + 1 + 1 + 1 + 1 + 1 + 1 + 1 + 1, 2, none⟩ = some (.int .i64 0) := (HB12.out.below HX8.out HB12.out.lt).cell 2
  have q3 : w8.cell? ⟨w.heap.size + 1 + 1 + 1 + 1 + 1 + 1 + 1 + 1 + 1 + 1 + 1 + 1, 3, none⟩ = some (.int .i64 0) := (HB12.out.below HX8.out HB12.out.lt).cell 3
  have q4 : w8.cell? ⟨w.heap.size + 1 + 1 + 1 + 1 + 1 + 1 + 1 + 1 + 1 + 1 + 1 + 1, 4, none⟩ = some (.slice none 0 0) := (HB12.out.below HX8.out HB12.out.lt).cell 4
  have q5 : w8.cell? ⟨w.heap.size + 1 + 1 + 1 + 1 + 1 + 1 + 1 + 1 + 1 + 1 + 1 + 1, 5, none⟩ = some (.int .i64 0) := (HB12.out.below HX8.out HB12.out.lt).cell 5
  have q6 : w8.cell? ⟨w.heap.size + 1 + 1 + 1 + 1 + 1 + 1 + 1 + 1 + 1 + 1 + 1 + 1, 6, none⟩ = some (.slice none 0 0) := (HB12.out.below HX8.out HB12.out.lt).cell 6
  have q7 : w8.cell? ⟨w.heap.size + 1 + 1 + 1 + 1 + 1 + 1 + 1 + 1 + 1 + 1 + 1 + 1, 7, none⟩ = some (.slice (some ⟨w.heap.size + 1 + 1 + 1 + 1 + 1 + 1 + 1 + 1 + 1 + 1 + 1, 0, none⟩) 2 2) := (HB12.out.below HX8.out HB12.out.lt).cell 7
  have q8 : w8.cell? ⟨w.heap.size + 1 + 1 + 1 + 1 + 1 + 1 + 1 + 1 + 1 + 1 + 1 + 1, 8, none⟩ = some (.slice none 0 0) := (HB12.out.below HX8.out HB12.out.lt).cell 8
  have q9 : w8.cell? ⟨w.heap.size + 1 + 1 + 1 + 1 + 1 + 1 + 1 + 1 + 1 + 1 + 1 + 1, 9, none⟩ = some (.slice none 0 0) := (HB12.out.below HX8.out HB12.out.lt).cell 9
  have q10 : w8.cell? ⟨w.heap.size + 1 + 1 + 1 + 1 + 1 + 1 + 1 + 1 + 1 + 1 + 1 + 1, 10, none⟩ = some (.slice none 0 0) := (HB12.out.below HX8.out HB12.out.lt).cell 10
  have q11 : w8.cell? ⟨w.heap.size + 1 + 1 + 1 + 1 + 1 + 1 + 1 + 1 + 1 + 1 + 1 + 1, 11, none⟩ = some (.slice none 0 0) := (HB12.out.below HX8.out HB12.out.lt).cell 11
  have q12 : w8.cell? ⟨w.heap.size + 1 + 1 + 1 + 1 + 1 + 1 + 1 + 1 + 1 + 1 + 1 + 1, 12, none⟩ = some (.slice none 0 0) := (HB12.out.below HX8.out HB12.out.lt).cell 12
  have q13 : w8.cell? ⟨w.heap.size + 1 + 1 + 1 + 1 + 1 + 1 + 1 + 1 + 1 + 1 + 1 + 1, 13, none⟩ = some (.slice none 0 0) := (HB12.out.below HX8.out HB12.out.lt).cell 13
  have q14 : w8.cell? ⟨w.heap.size + 1 + 1 + 1 + 1 + 1 + 1 + 1 + 1 + 1 + 1 + 1 + 1, 14, none⟩ = some (.slice none 0 0) := (HB12.out.below HX8.out HB12.out.lt).cell 14
  go_wp2_with fail
  clear q0 q1 q2 q3 q4 q5 q6 q7 q8 q9 q10 q11 q12 q13 q14
  refine (tBound_vE (awT (w.heap.size + 1 + 1 + 1 + 1 + 1 + 1 + 1 + 1 + 1 + 1 + 1)) 0 (by decide) (glE 2) w8 (awT_in _ _ _) (glE_in _ _ _ (by decide))).mono ?_
  rintro f w9 ⟨rfl, hb9⟩
  rw [aw_b2]
  have HX9 : Hid (Below W.heap.size W w9) := Lib.hid (HX8.out.trans (hb9.mono HX8.out.size))
  clear hb9
  have q0 : w9.cell? ⟨w.heap.size + 1 + 1 + 1 + 1, 0, none⟩ = some (.int .i64 6) := (HB4.out.below HX9.out HB4.out.lt).cell 0
  have q1 : w9.cell? ⟨w.heap.size + 1 + 1 + 1 + 1, 1, none⟩ = some (.int .i64 10) := (HB4.out.below HX9.out HB4.out.lt).cell 1
  have q2 : w9.cell? ⟨w.heap.size + 1 + 1 + 1 + 1, 2, none⟩ = some (.int .i64 0) := (HB4.out.below HX9.out HB4.out.lt).cell 2
  have q3 : w9.cell? ⟨w.heap.size + 1 + 1 + 1 + 1, 3, none⟩ = some (.string ⟨#[]⟩) := (HB4.out.below HX9.out HB4.out.lt).cell 3
  have q4 : w9.cell? ⟨w.heap.size + 1 + 1 + 1 + 1, 4, none⟩ = some (.slice (some ⟨w.heap.size + 1 + 1 + 1, 0, none⟩) 2 2) := (HB4.out.below HX9.out HB4.out.lt).cell 4
  go_wp2_with fail
  clear q0 q1 q2 q3 q4
  refine (tSame_any (sumE (w.heap.size + 1 + 1 + 1)) (sumE (w.heap.size + 1 + 1 + 1)) w9 (HSUM.out w9 HX9.out) (HSUM.out w9 HX9.out)).mono ?_
  rintro f w10 ⟨rfl, hb10⟩
  rw [sameE_refl]
  have HX10 : Hid (Below W.heap.size W w10) := Lib.hid (HX9.out.trans (hb10.mono HX9.out.size))
  clear hb10
  have q0 : w10.cell? ⟨w.heap.size + 1, 0, none⟩ = some (.int .i64 3) := (HB1.out.below HX10.out HB1.out.lt).cell 0
  have q1 : w10.cell? ⟨w.heap.size + 1, 1, none⟩ = some (.int .i64 0) := (HB1.out.below HX10.out HB1.out.lt).cell 1
  have q2 : w10.cell? ⟨w.heap.size + 1, 2, none⟩ = some (.int .i64 0) := (HB1.out.below HX10.out HB1.out.lt).cell 2
  have q3 : w10.cell? ⟨w.heap.size + 1, 3, none⟩ = some (.string ⟨#[97]⟩) := (HB1.out.below HX10.out HB1.out.lt).cell 3
  have q4 : w10.cell? ⟨w.heap.size + 1, 4, none⟩ = some (.slice none 0 0) := (HB1.out.below HX10.out HB1.out.lt).cell 4
  have r0 : w10.cell? ⟨w.heap.size + 1 + 1, 0, none⟩ = some (.int .i64 2) := (HB2.out.below HX10.out HB2.out.lt).cell 0
  have r1 : w10.cell? ⟨w.heap.size + 1 + 1, 1, none⟩ = some (.int .i64 0) := (HB2.out.below HX10.out HB2.out.lt).cell 1
  have r2 : w10.cell? ⟨w.heap.size + 1 + 1, 2, none⟩ = some (.int .i64 0) := (HB2.out.below HX10.out HB2.out.lt).cell 2
  have r3 : w10.cell? ⟨w.heap.size + 1 + 1, 3, none⟩ = some (.string ⟨#[98]⟩) := (HB2.out.below HX10.out HB2.out.lt).cell 3
  have r4 : w10.cell? ⟨w.heap.size + 1 + 1, 4, none⟩ = some (.slice none 0 0) := (HB2.out.below HX10.out HB2.out.lt).cell 4
  go_wp2_with fail
  clear q0 q1 q2 q3 q4
  clear r0 r1 r2 r3 r4
  refine (tSame_any aE bE w10 (aE_in _ _) (bE_in _ _)).mono ?_
  rintro f w11 ⟨rfl, hb11⟩
  rw [aw_e2]
  have HX11 : Hid (Below W.heap.size W w11) := Lib.hid (HX10.out.trans (hb11.mono HX10.out.size))
  clear hb11
  go_wp2_with fail
  go_ret
  exact ⟨rfl, HW.out.trans (HX11.out.mono HW.out.size)⟩

end Go.Proofs.Ytdmpadonnobeaaa
