/- The walk of the statement WireLists. -/
import Derived.Test.YtacklmfplpgkdaaListsR
namespace Go.Proofs.Ytacklmfplpgkdaa
open Go.RowKit

set_option maxRecDepth 100000 in
set_option maxHeartbeats 8000000 in
theorem lists_walk (A : Option Addr) (n c : Nat) (l : List UInt8) (x err most : Int) (w : World) (h : Rd w w.heap.size A n l) (hc : n ≤ c) (hcm : (c : Int) ≤ 9223372036854775807) (hx : x ≤ 9223372036854775807) (hn : (n : Int) ≤ 600) :
    Calls Try.prog 6 #[rv A n c x err, .int .i64 most] w fun e w' => e = .returned (.bool true) ∧ Below w.heap.size w w' := by
  have hlen := h.1
  have hil : (inS l most x err).1.length ≤ 1000000 := by
    unfold inS
    split
    · simp
    · split
      · simp
      · rename_i h1 h2
        rw [wsOf_length]
        have h1' : (sz l most x err).2.2 = 0 := Decidable.of_not_not h1
        obtain ⟨b0, _, _, b3, b4⟩ := sz_bounds l most x err h1'
        rcases nx_shape l (sz l most x err).2.1 (2 * (sz l most x err).1) with ⟨hq, _⟩ | ⟨_, hsh⟩
        · rw [hq] at h2; exact absurd (by simp) h2
        · omega
  have P1 := Lib.hid (fun (W : World) (hR : Rd W w.heap.size A n l) (hB : w.heap.size ≤ W.heap.size) => tText_any W w.heap.size A n c l x err most hR hB hx hc (by omega) hcm)
  have P2 := Lib.hid (fun (W : World) (hR : Rd W w.heap.size A n l) (hB : w.heap.size ≤ W.heap.size) => rtText_any W w.heap.size A n c l x err most hR hB hx hc (by omega) hcm)
  have P3 := Lib.hid (fun (W : World) (hR : Rd W w.heap.size A n l) (hB : w.heap.size ≤ W.heap.size) => tInts_any W w.heap.size A n c l x err most hR hB hx hc (by omega) hcm)
  have P4 := Lib.hid (fun (W : World) (hR : Rd W w.heap.size A n l) (hB : w.heap.size ≤ W.heap.size) => rtInts_any W w.heap.size A n c l x err most hR hB hx (by omega))
  obtain ⟨t, ht⟩ : ∃ t, t = txS l most x err := ⟨_, rfl⟩
  obtain ⟨r, hr⟩ : ∃ r, r = inS l most x err := ⟨_, rfl⟩
  rw [← ht] at P1 P2
  rw [← hr] at P3 P4 hil
  clear ht hr
  obtain ⟨ts, xt, et⟩ := t
  obtain ⟨zs, xi, ei⟩ := r
  simp only at P1 P2 P3 P4 hil
  have HIL := Lib.hid hil
  have H := Lib.hid h
  clear h hil hlen
  have hb0 : Below w.heap.size w (w.alloc (.cells #[.slice A n c, .int .i64 x, .int .i64 err] 37)) := (Below.refl _ _).alloc (Nat.le_refl _) _
  have X0 : Hid (Blk (w.alloc (.cells #[.slice A n c, .int .i64 x, .int .i64 err] 37)) w.heap.size 37 #[.slice A n c, .int .i64 x, .int .i64 err]) := Lib.hid (Blk.new w _ _)
  go_enter Try.func6, Try.ntmps6
  go_wp2_with fail
  refine (P1.out _ (H.out.below hb0) hb0.size).mono ?_
  rintro e w1 ⟨rfl, hc1⟩
  have hs1 := hc1.size
  have hb1 : Below w.heap.size w (w1.alloc (.cells #[.slice A n c, .int .i64 xt, .int .i64 et] 37)) := (hb0.trans (hc1.mono hb0.size)).alloc (by have := hb0.size; omega) _
  have X1 : Hid (Blk (w1.alloc (.cells #[.slice A n c, .int .i64 xt, .int .i64 et] 37)) w.heap.size 37 #[.slice A n c, .int .i64 x, .int .i64 err]) := Lib.hid ((X0.out.below hc1 X0.out.lt).alloc _)
  have G1_1 : Hid (Blk (w1.alloc (.cells #[.slice A n c, .int .i64 xt, .int .i64 et] 37)) w1.heap.size 37 #[.slice A n c, .int .i64 xt, .int .i64 et]) := Lib.hid (Blk.new w1 _ _)
  have q0 := X1.out.cell 0
  have q1 := X1.out.cell 1
  have q2 := X1.out.cell 2
  simp only [List.getElem?_toArray, List.getElem?_cons_zero, List.getElem?_cons_succ] at q0 q1 q2
  clear hc1 hs1 X0  hb0
  go_wp2_with fail
  clear q0 q1 q2
  refine (P2.out _ (H.out.below hb1) hb1.size).mono ?_
  rintro e w2 ⟨rfl, hc2⟩
  have hs2 := hc2.size
  have hb2 : Below w.heap.size w (w2.alloc (.cells #[.slice A n c, .int .i64 xt, .int .i64 et] 37)) := (hb1.trans (hc2.mono hb1.size)).alloc (by have := hb1.size; omega) _
  have X2 : Hid (Blk (w2.alloc (.cells #[.slice A n c, .int .i64 xt, .int .i64 et] 37)) w.heap.size 37 #[.slice A n c, .int .i64 x, .int .i64 err]) := Lib.hid ((X1.out.below hc2 X1.out.lt).alloc _)
  have G2_2 : Hid (Blk (w2.alloc (.cells #[.slice A n c, .int .i64 xt, .int .i64 et] 37)) w2.heap.size 37 #[.slice A n c, .int .i64 xt, .int .i64 et]) := Lib.hid (Blk.new w2 _ _)
  have G1_2 : Hid (Blk (w2.alloc (.cells #[.slice A n c, .int .i64 xt, .int .i64 et] 37)) w1.heap.size 37 #[.slice A n c, .int .i64 xt, .int .i64 et]) := Lib.hid ((G1_1.out.below hc2 G1_1.out.lt).alloc _)
  have q0 := X2.out.cell 0
  have q1 := X2.out.cell 1
  have q2 := X2.out.cell 2
  simp only [List.getElem?_toArray, List.getElem?_cons_zero, List.getElem?_cons_succ] at q0 q1 q2
  clear hc2 hs2 X1 G1_1 hb1
  go_wp2_with fail
  clear q0 q1 q2
  refine (P3.out _ (H.out.below hb2) hb2.size).mono ?_
  rintro e w3 ⟨A3, n3, c3, rfl, hi3, hc3, _⟩
  have I3_3 : Hid (RdI (w3.alloc (.cells #[.slice A n c, .int .i64 xi, .int .i64 ei] 37)) w3.heap.size A3 n3 zs) := Lib.hid (hi3.below ((Below.refl _ _).alloc (Nat.le_refl _) _))
  clear hi3
  have hs3 := hc3.size
  have hb3 : Below w.heap.size w (w3.alloc (.cells #[.slice A n c, .int .i64 xi, .int .i64 ei] 37)) := (hb2.trans (hc3.mono hb2.size)).alloc (by have := hb2.size; omega) _
  have X3 : Hid (Blk (w3.alloc (.cells #[.slice A n c, .int .i64 xi, .int .i64 ei] 37)) w.heap.size 37 #[.slice A n c, .int .i64 x, .int .i64 err]) := Lib.hid ((X2.out.below hc3 X2.out.lt).alloc _)
  have G3_3 : Hid (Blk (w3.alloc (.cells #[.slice A n c, .int .i64 xi, .int .i64 ei] 37)) w3.heap.size 37 #[.slice A n c, .int .i64 xi, .int .i64 ei]) := Lib.hid (Blk.new w3 _ _)
  have G1_3 : Hid (Blk (w3.alloc (.cells #[.slice A n c, .int .i64 xi, .int .i64 ei] 37)) w1.heap.size 37 #[.slice A n c, .int .i64 xt, .int .i64 et]) := Lib.hid ((G1_2.out.below hc3 G1_2.out.lt).alloc _)
  have G2_3 : Hid (Blk (w3.alloc (.cells #[.slice A n c, .int .i64 xi, .int .i64 ei] 37)) w2.heap.size 37 #[.slice A n c, .int .i64 xt, .int .i64 et]) := Lib.hid ((G2_2.out.below hc3 G2_2.out.lt).alloc _)
  have q0 := X3.out.cell 0
  have q1 := X3.out.cell 1
  have q2 := X3.out.cell 2
  simp only [List.getElem?_toArray, List.getElem?_cons_zero, List.getElem?_cons_succ] at q0 q1 q2
  clear hc3 hs3 X2 G1_2 G2_2 hb2
  go_wp2_with fail
  clear q0 q1 q2
  refine (P4.out _ (H.out.below hb3) hb3.size).mono ?_
  rintro e w4 ⟨A4, n4, c4, rfl, hi4, hc4, _⟩
  have I4_4 : Hid (RdI (w4.alloc (.cells #[.slice A n c, .int .i64 xi, .int .i64 ei] 37)) w4.heap.size A4 n4 zs) := Lib.hid (hi4.below ((Below.refl _ _).alloc (Nat.le_refl _) _))
  clear hi4
  have hs4 := hc4.size
  have hb4 : Below w.heap.size w (w4.alloc (.cells #[.slice A n c, .int .i64 xi, .int .i64 ei] 37)) := (hb3.trans (hc4.mono hb3.size)).alloc (by have := hb3.size; omega) _
  have X4 : Hid (Blk (w4.alloc (.cells #[.slice A n c, .int .i64 xi, .int .i64 ei] 37)) w.heap.size 37 #[.slice A n c, .int .i64 x, .int .i64 err]) := Lib.hid ((X3.out.below hc4 X3.out.lt).alloc _)
  have G4_4 : Hid (Blk (w4.alloc (.cells #[.slice A n c, .int .i64 xi, .int .i64 ei] 37)) w4.heap.size 37 #[.slice A n c, .int .i64 xi, .int .i64 ei]) := Lib.hid (Blk.new w4 _ _)
  have G1_4 : Hid (Blk (w4.alloc (.cells #[.slice A n c, .int .i64 xi, .int .i64 ei] 37)) w1.heap.size 37 #[.slice A n c, .int .i64 xt, .int .i64 et]) := Lib.hid ((G1_3.out.below hc4 G1_3.out.lt).alloc _)
  have G2_4 : Hid (Blk (w4.alloc (.cells #[.slice A n c, .int .i64 xi, .int .i64 ei] 37)) w2.heap.size 37 #[.slice A n c, .int .i64 xt, .int .i64 et]) := Lib.hid ((G2_3.out.below hc4 G2_3.out.lt).alloc _)
  have G3_4 : Hid (Blk (w4.alloc (.cells #[.slice A n c, .int .i64 xi, .int .i64 ei] 37)) w3.heap.size 37 #[.slice A n c, .int .i64 xi, .int .i64 ei]) := Lib.hid ((G3_3.out.below hc4 G3_3.out.lt).alloc _)
  have I3_4 : Hid (RdI (w4.alloc (.cells #[.slice A n c, .int .i64 xi, .int .i64 ei] 37)) w3.heap.size A3 n3 zs) := Lib.hid (I3_3.out.below ((hc4.mono (by simp)).alloc (by simp at hs4; omega) _))
  have qa0 := G1_4.out.cell 0
  have qa1 := G1_4.out.cell 1
  have qa2 := G1_4.out.cell 2
  simp only [List.getElem?_toArray, List.getElem?_cons_zero, List.getElem?_cons_succ] at qa0 qa1 qa2
  have qb0 := G2_4.out.cell 0
  have qb1 := G2_4.out.cell 1
  have qb2 := G2_4.out.cell 2
  simp only [List.getElem?_toArray, List.getElem?_cons_zero, List.getElem?_cons_succ] at qb0 qb1 qb2
  clear hc4 hs4 X3 G1_3 G2_3 G3_3 I3_3 hb3
  go_wp2_with fail
  have hnl : (n3 : Int) ≤ 1000000 := by have h1 := I3_4.out.1; have h2 := HIL.out; omega
  refine (reader_same _ w.heap.size A n c l xt et (H.out.below hb4) hb4.size).mono ?_
  rintro e w5 ⟨rfl, hc5⟩
  have hb5 := hb4.trans (hc5.mono hb4.size)
  have I3_5 := Lib.hid (I3_4.out.below (hc5.mono (by have := G3_4.out.lt; omega)))
  have I4_5 := Lib.hid (I4_4.out.below (hc5.mono (by simp)))
  have G3_5 := Lib.hid (G3_4.out.below hc5 G3_4.out.lt)
  have G4_5 := Lib.hid (G4_4.out.below hc5 G4_4.out.lt)
  clear hc5 qa0 qa1 qa2 qb0 qb1 qb2 G1_4 G2_4 G3_4 G4_4 I3_4 I4_4 X4
  go_wp2_with fail
  refine (same_same _ _ _ A3 A4 n3 n4 c3 c4 zs I3_5.out I4_5.out hnl).mono ?_
  rintro e w6 ⟨rfl, hc6⟩
  have hb6 := hb5.trans (hc6.mono hb5.size)
  have G3_6 := Lib.hid (G3_5.out.below hc6 G3_5.out.lt)
  have G4_6 := Lib.hid (G4_5.out.below hc6 G4_5.out.lt)
  have qa0 := G3_6.out.cell 0
  have qa1 := G3_6.out.cell 1
  have qa2 := G3_6.out.cell 2
  simp only [List.getElem?_toArray, List.getElem?_cons_zero, List.getElem?_cons_succ] at qa0 qa1 qa2
  have qb0 := G4_6.out.cell 0
  have qb1 := G4_6.out.cell 1
  have qb2 := G4_6.out.cell 2
  simp only [List.getElem?_toArray, List.getElem?_cons_zero, List.getElem?_cons_succ] at qb0 qb1 qb2
  clear hc6 G3_5 G4_5
  go_wp2_with fail
  refine (reader_same _ w.heap.size A n c l xi ei (H.out.below hb6) hb6.size).mono ?_
  rintro e w7 ⟨rfl, hc7⟩
  have hb7 := hb6.trans (hc7.mono hb6.size)
  go_wp2_with fail
  refine (awake_any _).mono ?_
  rintro e w8 ⟨rfl, hc8⟩
  go_wp2_with fail
  go_ret
  exact ⟨rfl, hb7.trans (hc8.mono hb7.size)⟩

set_option maxRecDepth 100000 in
set_option maxHeartbeats 800000 in
theorem lists_long (A : Option Addr) (n c : Nat) (x err most : Int) (w : World) (hn : ¬ (n : Int) ≤ 600) :
    Calls Try.prog 6 #[rv A n c x err, .int .i64 most] w fun e w' => e = .returned (.bool true) ∧ Below w.heap.size w w' := by
  go_enter Try.func6, Try.ntmps6
  go_wp2_with fail
  refine (awake_any _).mono ?_
  rintro e w0 ⟨rfl, hc⟩
  go_wp2_with fail
  go_ret
  exact ⟨rfl, ((Below.refl _ _).alloc (Nat.le_refl _) _).trans (hc.mono (by simp))⟩

end Go.Proofs.Ytacklmfplpgkdaa
