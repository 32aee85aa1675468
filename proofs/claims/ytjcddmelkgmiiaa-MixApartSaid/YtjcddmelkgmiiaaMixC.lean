/- The steps of a state as function values: contracts of mix.nonzero, mixedRight, mixedLeft, chain, transition and of their closures. -/
import Derived.Test.YtjcddmelkgmiiaaRows
import Derived.Test.YtjcddmelkgmiiaaBlk
import Derived.Test.YtjcddmelkgmiiaaEnt
import Derived.Test.YtjcddmelkgmiiaaMixP
import Derived.Laws.BitsAllLaws
import Derived.Laws.ShiftsVar
import Derived.Laws.Bits64
namespace Go.Proofs.Ytjcddmelkgmiiaa
open Go.RowKit

theorem xor_right (d s : Nat) (h : s < Mx.M) : bits .xor .u64 (s : Int) ((s : Int) / 2 ^ d) = ((Mx.mr d s : Nat) : Int) := by
  have e := u64_xor_nat s (s / 2 ^ d) h (Nat.lt_of_le_of_lt (Nat.div_le_self _ _) h)
  rw [Int.natCast_ediv, Int.natCast_pow] at e
  exact e

theorem xor_left (d s : Nat) (h : s < Mx.M) : bits .xor .u64 (s : Int) (IntKind.u64.wrap ((s : Int) * 2 ^ d)) = ((Mx.ml d s : Nat) : Int) := by
  rw [IntKind.wrap_u64]
  have e := u64_xor_nat s (s * 2 ^ d % 18446744073709551616) h (Nat.mod_lt _ (by decide))
  rw [Int.natCast_emod, Int.natCast_mul, Int.natCast_pow] at e
  exact e

set_option maxRecDepth 100000 in
set_option maxHeartbeats 400000 in
theorem nonzero_any (w : World) (s : Nat) : Calls Try.prog 19 #[.int .u64 s] w fun e w' => e = .returned (.int .u64 (Mx.nz s : Nat)) ∧ w = w' := by
  by_cases h : s = 0
  · subst h
    go_enter Try.func19, Try.ntmps19
    go_wp2_with fail
    go_ret
    exact ⟨rfl, rfl⟩
  · have e : Mx.nz s = s := by unfold Mx.nz; rw [if_neg h]
    rw [e]
    have hp : 1 ≤ s := by omega
    clear e h
    go_enter Try.func19, Try.ntmps19
    go_wp2_with fail
    go_ret
    exact ⟨rfl, rfl⟩

set_option maxRecDepth 100000 in
set_option maxHeartbeats 400000 in
theorem right1_any (w : World) (g d s : Nat) (hd : d ≤ 64) (hs : s < Mx.M) (h1 : w.cell? ⟨g, 0, none⟩ = some (.int .i64 d)) :
    Calls Try.prog 26 #[.int .u64 s, .pointer (some ⟨g, 0, none⟩)] w fun e w' => e = .returned (.int .u64 (Mx.mr d s : Nat)) ∧ w = w' := by
  have hx := xor_right d s hs
  clear hs
  go_enter Try.func26, Try.ntmps26
  go_wp2_with fail
  go_ret
  exact ⟨rfl, rfl⟩

set_option maxRecDepth 100000 in
set_option maxHeartbeats 400000 in
theorem left1_any (w : World) (g d s : Nat) (hd : d ≤ 64) (hs : s < Mx.M) (h1 : w.cell? ⟨g, 0, none⟩ = some (.int .i64 d)) :
    Calls Try.prog 27 #[.int .u64 s, .pointer (some ⟨g, 0, none⟩)] w fun e w' => e = .returned (.int .u64 (Mx.ml d s : Nat)) ∧ w = w' := by
  have hx := xor_left d s hs
  clear hs
  go_enter Try.func27, Try.ntmps27
  go_wp2_with fail
  go_ret
  exact ⟨rfl, rfl⟩

set_option maxRecDepth 100000 in
set_option maxHeartbeats 400000 in
theorem right_any (w : World) (d : Int) : Calls Try.prog 23 #[.int .i64 d] w fun e w' => e = .returned (.func (.func 26) #[] #[.pointer (some ⟨w.heap.size, 0, none⟩)]) ∧ w' = w.alloc (.cells #[.int .i64 d] 3) := by
  have hmf : ∀ (fn : Fn) (first cap : Array Value) (w : World), (Instr.makeFunc fn first cap).run Try.prog w = .ok (.func fn first cap) w := fun _ _ _ _ => rfl
  go_enter Try.func23, Try.ntmps23
  go_wp2_with fail
  go_ret
  exact ⟨rfl, rfl⟩

set_option maxRecDepth 100000 in
set_option maxHeartbeats 400000 in
theorem left_any (w : World) (d : Int) : Calls Try.prog 24 #[.int .i64 d] w fun e w' => e = .returned (.func (.func 27) #[] #[.pointer (some ⟨w.heap.size, 0, none⟩)]) ∧ w' = w.alloc (.cells #[.int .i64 d] 3) := by
  have hmf : ∀ (fn : Fn) (first cap : Array Value) (w : World), (Instr.makeFunc fn first cap).run Try.prog w = .ok (.func fn first cap) w := fun _ _ _ _ => rfl
  go_enter Try.func24, Try.ntmps24
  go_wp2_with fail
  go_ret
  exact ⟨rfl, rfl⟩

/-- the captured numbers, the list of the four steps, the variable that holds it -/
structure Chain (w : World) (B g1 g2 g3 g4 g5 : Nat) : Prop where
  c1 : w.cell? ⟨g1, 0, none⟩ = some (.int .i64 12)
  c2 : w.cell? ⟨g2, 0, none⟩ = some (.int .i64 25)
  c3 : w.cell? ⟨g3, 0, none⟩ = some (.int .i64 27)
  d0 : w.cell? ⟨g4, 0, none⟩ = some (.func (.func 19) #[] #[])
  d1 : w.cell? ⟨g4, 1, none⟩ = some (.func (.func 26) #[] #[.pointer (some ⟨g1, 0, none⟩)])
  d2 : w.cell? ⟨g4, 2, none⟩ = some (.func (.func 27) #[] #[.pointer (some ⟨g2, 0, none⟩)])
  d3 : w.cell? ⟨g4, 3, none⟩ = some (.func (.func 26) #[] #[.pointer (some ⟨g3, 0, none⟩)])
  e0 : w.cell? ⟨g5, 0, none⟩ = some (.slice (some ⟨g4, 0, none⟩) 4 4)
  b1 : g1 < B
  b2 : g2 < B
  b3 : g3 < B
  b4 : g4 < B
  b5 : g5 < B

theorem Chain.below {w w1 : World} {B g1 g2 g3 g4 g5 : Nat} (h : Chain w B g1 g2 g3 g4 g5) (hb : Below B w w1) : Chain w1 B g1 g2 g3 g4 g5 where
  c1 := (hb.cell (p := ⟨g1, 0, none⟩) h.b1).trans h.c1
  c2 := (hb.cell (p := ⟨g2, 0, none⟩) h.b2).trans h.c2
  c3 := (hb.cell (p := ⟨g3, 0, none⟩) h.b3).trans h.c3
  d0 := (hb.cell (p := ⟨g4, 0, none⟩) h.b4).trans h.d0
  d1 := (hb.cell (p := ⟨g4, 1, none⟩) h.b4).trans h.d1
  d2 := (hb.cell (p := ⟨g4, 2, none⟩) h.b4).trans h.d2
  d3 := (hb.cell (p := ⟨g4, 3, none⟩) h.b4).trans h.d3
  e0 := (hb.cell (p := ⟨g5, 0, none⟩) h.b5).trans h.e0
  b1 := h.b1
  b2 := h.b2
  b3 := h.b3
  b4 := h.b4
  b5 := h.b5

/-- a state behind the first j of the four steps -/
def part (s : Nat) : Nat → Nat
  | 0 => s
  | 1 => Mx.nz s
  | 2 => Mx.mr 12 (Mx.nz s)
  | 3 => Mx.ml 25 (Mx.mr 12 (Mx.nz s))
  | _ => Mx.next s

theorem part_lt {s : Nat} (h : s < Mx.M) (j : Nat) : part s j < Mx.M := by
  unfold part
  split
  · exact h
  · exact Mx.nz_lt h
  · exact Mx.mr_lt _ (Mx.nz_lt h)
  · exact Mx.ml_lt _ (Mx.mr_lt _ (Mx.nz_lt h))
  · exact Mx.next_lt h

theorem entersN : Enters 19 := ⟨_, Try.func19, by kernel_rfl, by kernel_rfl⟩
theorem entersR : Enters 26 := ⟨_, Try.func26, by kernel_rfl, by kernel_rfl⟩
theorem entersL : Enters 27 := ⟨_, Try.func27, by kernel_rfl, by kernel_rfl⟩
theorem entersC : Enters 25 := ⟨_, Try.func25, by kernel_rfl, by kernel_rfl⟩

set_option maxRecDepth 100000 in
set_option maxHeartbeats 1600000 in
theorem chain1_any (w : World) (B g1 g2 g3 g4 g5 s : Nat) (hs : s < Mx.M) (h : Chain w B g1 g2 g3 g4 g5) :
    Calls Try.prog 25 #[.int .u64 s, .pointer (some ⟨g5, 0, none⟩)] w fun e w' => e = .returned (.int .u64 (Mx.next s : Nat)) ∧ w = w' := by
  have k0 := entersN.run
  have k1 := entersR.run
  have k2 := entersL.run
  have e0 := h.e0
  have q0 := h.d0
  have q1 := h.d1
  have q2 := h.d2
  have q3 := h.d3
  have HC := Lib.hid h
  have HS := Lib.hid hs
  clear h hs
  go_enter Try.func25, Try.ntmps25
  go_wp2_with fail
  go_loop [0, 8] (fun v i => ∃ j : Nat, j ≤ 4 ∧ i = .int .i64 j ∧ v = .int .u64 (part s j : Nat)) (fun _ i => 4 - (intOf i).toNat)
  case atStart => exact ⟨0, by omega, rfl, rfl⟩
  case round =>
    obtain ⟨j, hj, rfl, rfl⟩ := hrel
    rcases (by omega : j = 0 ∨ j = 1 ∨ j = 2 ∨ j = 3 ∨ j = 4) with rfl | rfl | rfl | rfl | rfl
    · go_wp2_with fail
      refine (nonzero_any w (part s 0)).mono ?_
      rintro e w1 ⟨rfl, rfl⟩
      go_wp2_with fail
      go_round
      case rel => exact ⟨1, by omega, by go_num, rfl⟩
      case measure => simp [intOf]
    · go_wp2_with fail
      refine (right1_any w g1 12 (part s 1) (by omega) (part_lt HS.out 1) HC.out.c1).mono ?_
      rintro e w1 ⟨rfl, rfl⟩
      go_wp2_with fail
      go_round
      case rel => exact ⟨2, by omega, by go_num, rfl⟩
      case measure => simp [intOf]
    · go_wp2_with fail
      refine (left1_any w g2 25 (part s 2) (by omega) (part_lt HS.out 2) HC.out.c2).mono ?_
      rintro e w1 ⟨rfl, rfl⟩
      go_wp2_with fail
      go_round
      case rel => exact ⟨3, by omega, by go_num, rfl⟩
      case measure => simp [intOf]
    · go_wp2_with fail
      refine (right1_any w g3 27 (part s 3) (by omega) (part_lt HS.out 3) HC.out.c3).mono ?_
      rintro e w1 ⟨rfl, rfl⟩
      go_wp2_with fail
      go_round
      case rel => exact ⟨4, by omega, by go_num, rfl⟩
      case measure => simp [intOf]
    · go_wp2_with fail
      go_ret
      exact ⟨rfl, rfl⟩

/-- what transition hands back -/
def TransOut (w : World) (e : Ending) (w' : World) : Prop :=
  ∃ g1 g2 g3 g4 g5 : Nat, e = .returned (.func (.func 25) #[] #[.pointer (some ⟨g5, 0, none⟩)]) ∧ Below w.heap.size w w' ∧ Chain w' w'.heap.size g1 g2 g3 g4 g5

set_option maxRecDepth 100000 in
set_option maxHeartbeats 400000 in
theorem chain_any (w : World) (A : Option Addr) (n c : Nat) : Calls Try.prog 22 #[.slice A n c] w fun e w' => e = .returned (.func (.func 25) #[] #[.pointer (some ⟨w.heap.size, 0, none⟩)]) ∧ w' = w.alloc (.cells #[.slice A n c] 41) := by
  have hmf : ∀ (fn : Fn) (first cap : Array Value) (w : World), (Instr.makeFunc fn first cap).run Try.prog w = .ok (.func fn first cap) w := fun _ _ _ _ => rfl
  go_enter Try.func22, Try.ntmps22
  go_wp2_with fail
  go_ret
  exact ⟨rfl, rfl⟩

set_option maxRecDepth 100000 in
set_option maxHeartbeats 1600000 in
theorem transition_any (w : World) : Calls Try.prog 20 #[] w (TransOut w) := by
  go_enter Try.func20, Try.ntmps20
  go_wp2_with fail
  refine (right_any w 12).mono ?_
  rintro e w1 ⟨rfl, rfl⟩
  go_wp2_with fail
  refine (left_any _ 25).mono ?_
  rintro e w2 ⟨rfl, rfl⟩
  go_wp2_with fail
  refine (right_any _ 27).mono ?_
  rintro e w3 ⟨rfl, rfl⟩
  go_wp2_with fail
  refine (chain_any _ _ _ _).mono ?_
  rintro e w4 ⟨rfl, rfl⟩
  go_wp2_with fail
  go_ret
  have b1 := (((Blk.new w 3 #[.int .i64 12]).alloc (.cells #[.int .i64 25] 3)).alloc (.cells #[.int .i64 27] 3))
  have b2 := (Blk.new_at (w.alloc (.cells #[.int .i64 12] 3)) 3 #[.int .i64 25] (w.heap.size + 1) (by simp)).alloc (.cells #[.int .i64 27] 3)
  have b3 := Blk.new_at ((w.alloc (.cells #[.int .i64 12] 3)).alloc (.cells #[.int .i64 25] 3)) 3 #[.int .i64 27] (w.heap.size + 1 + 1) (by simp)
  have a0 := (((Below.refl w.heap.size w).alloc (Nat.le_refl _) (.cells #[.int .i64 12] 3)).alloc (by simp) (.cells #[.int .i64 25] 3)).alloc (by simp; omega) (.cells #[.int .i64 27] 3)
  have hz : (((w.alloc (.cells #[.int .i64 12] 3)).alloc (.cells #[.int .i64 25] 3)).alloc (.cells #[.int .i64 27] 3)).heap.size = w.heap.size + 1 + 1 + 1 := by simp
  generalize ((w.alloc (.cells #[.int .i64 12] 3)).alloc (.cells #[.int .i64 25] 3)).alloc (.cells #[.int .i64 27] 3) = u at *
  generalize hcs : (#[.func (.func 19) #[] #[], .func (.func 26) #[] #[.pointer (some ⟨w.heap.size, 0, none⟩)], .func (.func 27) #[] #[.pointer (some ⟨w.heap.size + 1, 0, none⟩)], .func (.func 26) #[] #[.pointer (some ⟨w.heap.size + 1 + 1, 0, none⟩)]] : Array Value) = cs
  have b4 := (Blk.new_at u 36 cs (w.heap.size + 1 + 1 + 1) hz.symm)
  have b5 := (Blk.new_at (u.alloc (.cells cs 36)) 41 #[.slice (some ⟨w.heap.size + 1 + 1 + 1, 0, none⟩) 4 4] (w.heap.size + 1 + 1 + 1 + 1) (by simp [hz]))
  exact ⟨w.heap.size, w.heap.size + 1, w.heap.size + 1 + 1, w.heap.size + 1 + 1 + 1, w.heap.size + 1 + 1 + 1 + 1, rfl, (a0.alloc (by omega) _).alloc (by simp; omega) _,
    ((b1.alloc _).alloc _).cell 0, ((b2.alloc _).alloc _).cell 0, ((b3.alloc _).alloc _).cell 0,
    ((b4.alloc _).cell 0).trans (by rw [← hcs]; rfl), ((b4.alloc _).cell 1).trans (by rw [← hcs]; rfl), ((b4.alloc _).cell 2).trans (by rw [← hcs]; rfl), ((b4.alloc _).cell 3).trans (by rw [← hcs]; rfl), b5.cell 0,
    by simp; omega, by simp; omega, by simp; omega, by simp; omega, by simp; omega⟩

end Go.Proofs.Ytjcddmelkgmiiaa
