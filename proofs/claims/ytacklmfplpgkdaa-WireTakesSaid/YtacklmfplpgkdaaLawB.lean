/- The walk of the statement WireTakes. -/
import Derived.Test.YtacklmfplpgkdaaEnd
import Derived.Deep.RegionHeld3
namespace Go.Proofs.Ytacklmfplpgkdaa
open Go.RowKit

/-- what a take leaves, whatever it takes -/
def Took (f : Nat) (arg : Array Value) (B : Nat) (A : Option Addr) (n c : Nat) (l : List UInt8) (v : Value) (x' e' : Int) : Prop :=
  ∀ W : World, Rd W B A n l → B ≤ W.heap.size → Calls Try.prog f arg W fun e w' => e = .returned (.tuple #[v, rv A n c x' e']) ∧ Below W.heap.size W w'

theorem two_takes {f g : Nat} {arg : Array Value} {B : Nat} {A : Option Addr} {n c : Nat} {l : List UInt8} {v : Value} {x' e' : Int} (h : Took f arg B A n c l v x' e') (h' : Took g arg B A n c l v x' e') :
    ∃ x1 e1, Took f arg B A n c l v x1 e1 ∧ Took g arg B A n c l v x1 e1 := ⟨_, _, h, h'⟩

set_option maxRecDepth 100000 in
set_option maxHeartbeats 8000000 in
theorem takes_walk (A : Option Addr) (n c : Nat) (l : List UInt8) (x err most : Int) (w : World) (h : Rd w w.heap.size A n l) (hc : n ≤ c) (hcm : (c : Int) ≤ 9223372036854775807) (hx : x ≤ 9223372036854775807) (hn : (n : Int) ≤ 300) :
    Calls Try.prog 5 #[rv A n c x err, .int .i64 most] w fun e w' => e = .returned (.bool true) ∧ Below w.heap.size w w' := by
  obtain ⟨v1, x1, e1, hp1, hq1⟩ : ∃ (v : Int) (x' e' : Int), Took 24 #[rv A n c x err] w.heap.size A n c l (.int .i64 v) x' e' ∧ Took 25 #[rv A n c x err] w.heap.size A n c l (.int .i64 v) x' e' :=
    ⟨_, _, _, fun W hR hB => tByte_any W w.heap.size A n c l x err hR hB hx hc (by omega) hcm, fun W hR hB => rtByte_any W w.heap.size A n c l x err hR hB hx (by omega)⟩
  have HP1 := Lib.hid hp1
  have HQ1 := Lib.hid hq1
  clear hp1 hq1
  obtain ⟨v2, x2, e2, hp2, hq2⟩ : ∃ (v : Int) (x' e' : Int), Took 26 #[rv A n c x err] w.heap.size A n c l (.int .i64 v) x' e' ∧ Took 27 #[rv A n c x err] w.heap.size A n c l (.int .i64 v) x' e' :=
    ⟨_, _, _, fun W hR hB => tWord_any W w.heap.size A n c l x err hR hB hx hc (by omega) hcm, fun W hR hB => rtWord_any W w.heap.size A n c l x err hR hB hx (by omega)⟩
  have HP2 := Lib.hid hp2
  have HQ2 := Lib.hid hq2
  clear hp2 hq2
  obtain ⟨v3, x3, e3, hp3, hq3⟩ : ∃ (v : Int) (x' e' : Int), Took 28 #[rv A n c x err] w.heap.size A n c l (.int .u32 v) x' e' ∧ Took 29 #[rv A n c x err] w.heap.size A n c l (.int .u32 v) x' e' :=
    ⟨_, _, _, fun W hR hB => tLong_any W w.heap.size A n c l x err hR hB hx hc (by omega) hcm, fun W hR hB => rtLong_any W w.heap.size A n c l x err hR hB hx (by omega)⟩
  have HP3 := Lib.hid hp3
  have HQ3 := Lib.hid hq3
  clear hp3 hq3
  obtain ⟨v4, x4, e4, hp4, hq4⟩ : ∃ (v : Int) (x' e' : Int), Took 30 #[rv A n c x err] w.heap.size A n c l (.int .u64 v) x' e' ∧ Took 31 #[rv A n c x err] w.heap.size A n c l (.int .u64 v) x' e' :=
    ⟨_, _, _, fun W hR hB => tHuge_any W w.heap.size A n c l x err hR hB hx hc (by omega) hcm, fun W hR hB => rtHuge_any W w.heap.size A n c l x err hR hB hx (by omega)⟩
  have HP4 := Lib.hid hp4
  have HQ4 := Lib.hid hq4
  clear hp4 hq4
  obtain ⟨v5, x5, e5, hp5, hq5⟩ : ∃ (v : Int) (x' e' : Int), Took 32 #[rv A n c x err, .int .i64 most] w.heap.size A n c l (.int .i64 v) x' e' ∧ Took 33 #[rv A n c x err, .int .i64 most] w.heap.size A n c l (.int .i64 v) x' e' :=
    ⟨_, _, _, fun W hR hB => tSize_any W w.heap.size A n c l x err most hR hB hx hc (by omega) hcm, fun W hR hB => rtSize_any W w.heap.size A n c l x err most hR hB hx (by omega)⟩
  have HP5 := Lib.hid hp5
  have HQ5 := Lib.hid hq5
  clear hp5 hq5
  have H := Lib.hid h
  clear h
  have hb0 : Below w.heap.size w (w.alloc (.cells #[.slice A n c, .int .i64 x, .int .i64 err] 37)) := (Below.refl _ _).alloc (Nat.le_refl _) _
  have X0 : Hid (Blk (w.alloc (.cells #[.slice A n c, .int .i64 x, .int .i64 err] 37)) w.heap.size 37 #[.slice A n c, .int .i64 x, .int .i64 err]) := Lib.hid (Blk.new w _ _)
  go_enter Try.func5, Try.ntmps5
  go_wp2_with fail
  refine (HP1.out _ (H.out.below hb0) hb0.size).mono ?_
  rintro e w1 ⟨rfl, hc1⟩
  have hs1 := hc1.size
  have hb1 : Below w.heap.size w (w1.alloc (.cells #[.slice A n c, .int .i64 x1, .int .i64 e1] 37)) := (hb0.trans (hc1.mono hb0.size)).alloc (by have := hb0.size; omega) _
  have X1 : Hid (Blk (w1.alloc (.cells #[.slice A n c, .int .i64 x1, .int .i64 e1] 37)) w.heap.size 37 #[.slice A n c, .int .i64 x, .int .i64 err]) := Lib.hid ((X0.out.below hc1 X0.out.lt).alloc _)
  have G1_1 : Hid (Blk (w1.alloc (.cells #[.slice A n c, .int .i64 x1, .int .i64 e1] 37)) w1.heap.size 37 #[.slice A n c, .int .i64 x1, .int .i64 e1]) := Lib.hid (Blk.new w1 _ _)
  have q10 := X1.out.cell 0
  have q11 := X1.out.cell 1
  have q12 := X1.out.cell 2
  simp only [List.getElem?_toArray, List.getElem?_cons_zero, List.getElem?_cons_succ] at q10 q11 q12
  clear hc1 hs1 X0  hb0
  go_wp2_with fail
  clear q10 q11 q12
  refine (HQ1.out _ (H.out.below hb1) hb1.size).mono ?_
  rintro e w2 ⟨rfl, hc2⟩
  have hs2 := hc2.size
  have hb2 : Below w.heap.size w (w2.alloc (.cells #[.slice A n c, .int .i64 x1, .int .i64 e1] 37)) := (hb1.trans (hc2.mono hb1.size)).alloc (by have := hb1.size; omega) _
  have X2 : Hid (Blk (w2.alloc (.cells #[.slice A n c, .int .i64 x1, .int .i64 e1] 37)) w.heap.size 37 #[.slice A n c, .int .i64 x, .int .i64 err]) := Lib.hid ((X1.out.below hc2 X1.out.lt).alloc _)
  have G2_2 : Hid (Blk (w2.alloc (.cells #[.slice A n c, .int .i64 x1, .int .i64 e1] 37)) w2.heap.size 37 #[.slice A n c, .int .i64 x1, .int .i64 e1]) := Lib.hid (Blk.new w2 _ _)
  have G1_2 : Hid (Blk (w2.alloc (.cells #[.slice A n c, .int .i64 x1, .int .i64 e1] 37)) w1.heap.size 37 #[.slice A n c, .int .i64 x1, .int .i64 e1]) := Lib.hid ((G1_1.out.below hc2 G1_1.out.lt).alloc _)
  have q20 := X2.out.cell 0
  have q21 := X2.out.cell 1
  have q22 := X2.out.cell 2
  simp only [List.getElem?_toArray, List.getElem?_cons_zero, List.getElem?_cons_succ] at q20 q21 q22
  clear hc2 hs2 X1 G1_1 hb1
  go_wp2_with fail
  clear q20 q21 q22
  refine (HP2.out _ (H.out.below hb2) hb2.size).mono ?_
  rintro e w3 ⟨rfl, hc3⟩
  have hs3 := hc3.size
  have hb3 : Below w.heap.size w (w3.alloc (.cells #[.slice A n c, .int .i64 x2, .int .i64 e2] 37)) := (hb2.trans (hc3.mono hb2.size)).alloc (by have := hb2.size; omega) _
  have X3 : Hid (Blk (w3.alloc (.cells #[.slice A n c, .int .i64 x2, .int .i64 e2] 37)) w.heap.size 37 #[.slice A n c, .int .i64 x, .int .i64 err]) := Lib.hid ((X2.out.below hc3 X2.out.lt).alloc _)
  have G3_3 : Hid (Blk (w3.alloc (.cells #[.slice A n c, .int .i64 x2, .int .i64 e2] 37)) w3.heap.size 37 #[.slice A n c, .int .i64 x2, .int .i64 e2]) := Lib.hid (Blk.new w3 _ _)
  have G1_3 : Hid (Blk (w3.alloc (.cells #[.slice A n c, .int .i64 x2, .int .i64 e2] 37)) w1.heap.size 37 #[.slice A n c, .int .i64 x1, .int .i64 e1]) := Lib.hid ((G1_2.out.below hc3 G1_2.out.lt).alloc _)
  have G2_3 : Hid (Blk (w3.alloc (.cells #[.slice A n c, .int .i64 x2, .int .i64 e2] 37)) w2.heap.size 37 #[.slice A n c, .int .i64 x1, .int .i64 e1]) := Lib.hid ((G2_2.out.below hc3 G2_2.out.lt).alloc _)
  have q30 := X3.out.cell 0
  have q31 := X3.out.cell 1
  have q32 := X3.out.cell 2
  simp only [List.getElem?_toArray, List.getElem?_cons_zero, List.getElem?_cons_succ] at q30 q31 q32
  clear hc3 hs3 X2 G1_2 G2_2 hb2
  go_wp2_with fail
  clear q30 q31 q32
  refine (HQ2.out _ (H.out.below hb3) hb3.size).mono ?_
  rintro e w4 ⟨rfl, hc4⟩
  have hs4 := hc4.size
  have hb4 : Below w.heap.size w (w4.alloc (.cells #[.slice A n c, .int .i64 x2, .int .i64 e2] 37)) := (hb3.trans (hc4.mono hb3.size)).alloc (by have := hb3.size; omega) _
  have X4 : Hid (Blk (w4.alloc (.cells #[.slice A n c, .int .i64 x2, .int .i64 e2] 37)) w.heap.size 37 #[.slice A n c, .int .i64 x, .int .i64 err]) := Lib.hid ((X3.out.below hc4 X3.out.lt).alloc _)
  have G4_4 : Hid (Blk (w4.alloc (.cells #[.slice A n c, .int .i64 x2, .int .i64 e2] 37)) w4.heap.size 37 #[.slice A n c, .int .i64 x2, .int .i64 e2]) := Lib.hid (Blk.new w4 _ _)
  have G1_4 : Hid (Blk (w4.alloc (.cells #[.slice A n c, .int .i64 x2, .int .i64 e2] 37)) w1.heap.size 37 #[.slice A n c, .int .i64 x1, .int .i64 e1]) := Lib.hid ((G1_3.out.below hc4 G1_3.out.lt).alloc _)
  have G2_4 : Hid (Blk (w4.alloc (.cells #[.slice A n c, .int .i64 x2, .int .i64 e2] 37)) w2.heap.size 37 #[.slice A n c, .int .i64 x1, .int .i64 e1]) := Lib.hid ((G2_3.out.below hc4 G2_3.out.lt).alloc _)
  have G3_4 : Hid (Blk (w4.alloc (.cells #[.slice A n c, .int .i64 x2, .int .i64 e2] 37)) w3.heap.size 37 #[.slice A n c, .int .i64 x2, .int .i64 e2]) := Lib.hid ((G3_3.out.below hc4 G3_3.out.lt).alloc _)
  have q40 := X4.out.cell 0
  have q41 := X4.out.cell 1
  have q42 := X4.out.cell 2
  simp only [List.getElem?_toArray, List.getElem?_cons_zero, List.getElem?_cons_succ] at q40 q41 q42
  clear hc4 hs4 X3 G1_3 G2_3 G3_3 hb3
  go_wp2_with fail
  clear q40 q41 q42
  refine (HP3.out _ (H.out.below hb4) hb4.size).mono ?_
  rintro e w5 ⟨rfl, hc5⟩
  have hs5 := hc5.size
  have hb5 : Below w.heap.size w (w5.alloc (.cells #[.slice A n c, .int .i64 x3, .int .i64 e3] 37)) := (hb4.trans (hc5.mono hb4.size)).alloc (by have := hb4.size; omega) _
  have X5 : Hid (Blk (w5.alloc (.cells #[.slice A n c, .int .i64 x3, .int .i64 e3] 37)) w.heap.size 37 #[.slice A n c, .int .i64 x, .int .i64 err]) := Lib.hid ((X4.out.below hc5 X4.out.lt).alloc _)
  have G5_5 : Hid (Blk (w5.alloc (.cells #[.slice A n c, .int .i64 x3, .int .i64 e3] 37)) w5.heap.size 37 #[.slice A n c, .int .i64 x3, .int .i64 e3]) := Lib.hid (Blk.new w5 _ _)
  have G1_5 : Hid (Blk (w5.alloc (.cells #[.slice A n c, .int .i64 x3, .int .i64 e3] 37)) w1.heap.size 37 #[.slice A n c, .int .i64 x1, .int .i64 e1]) := Lib.hid ((G1_4.out.below hc5 G1_4.out.lt).alloc _)
  have G2_5 : Hid (Blk (w5.alloc (.cells #[.slice A n c, .int .i64 x3, .int .i64 e3] 37)) w2.heap.size 37 #[.slice A n c, .int .i64 x1, .int .i64 e1]) := Lib.hid ((G2_4.out.below hc5 G2_4.out.lt).alloc _)
  have G3_5 : Hid (Blk (w5.alloc (.cells #[.slice A n c, .int .i64 x3, .int .i64 e3] 37)) w3.heap.size 37 #[.slice A n c, .int .i64 x2, .int .i64 e2]) := Lib.hid ((G3_4.out.below hc5 G3_4.out.lt).alloc _)
  have G4_5 : Hid (Blk (w5.alloc (.cells #[.slice A n c, .int .i64 x3, .int .i64 e3] 37)) w4.heap.size 37 #[.slice A n c, .int .i64 x2, .int .i64 e2]) := Lib.hid ((G4_4.out.below hc5 G4_4.out.lt).alloc _)
  have q50 := X5.out.cell 0
  have q51 := X5.out.cell 1
  have q52 := X5.out.cell 2
  simp only [List.getElem?_toArray, List.getElem?_cons_zero, List.getElem?_cons_succ] at q50 q51 q52
  clear hc5 hs5 X4 G1_4 G2_4 G3_4 G4_4 hb4
  go_wp2_with fail
  clear q50 q51 q52
  refine (HQ3.out _ (H.out.below hb5) hb5.size).mono ?_
  rintro e w6 ⟨rfl, hc6⟩
  have hs6 := hc6.size
  have hb6 : Below w.heap.size w (w6.alloc (.cells #[.slice A n c, .int .i64 x3, .int .i64 e3] 37)) := (hb5.trans (hc6.mono hb5.size)).alloc (by have := hb5.size; omega) _
  have X6 : Hid (Blk (w6.alloc (.cells #[.slice A n c, .int .i64 x3, .int .i64 e3] 37)) w.heap.size 37 #[.slice A n c, .int .i64 x, .int .i64 err]) := Lib.hid ((X5.out.below hc6 X5.out.lt).alloc _)
  have G6_6 : Hid (Blk (w6.alloc (.cells #[.slice A n c, .int .i64 x3, .int .i64 e3] 37)) w6.heap.size 37 #[.slice A n c, .int .i64 x3, .int .i64 e3]) := Lib.hid (Blk.new w6 _ _)
  have G1_6 : Hid (Blk (w6.alloc (.cells #[.slice A n c, .int .i64 x3, .int .i64 e3] 37)) w1.heap.size 37 #[.slice A n c, .int .i64 x1, .int .i64 e1]) := Lib.hid ((G1_5.out.below hc6 G1_5.out.lt).alloc _)
  have G2_6 : Hid (Blk (w6.alloc (.cells #[.slice A n c, .int .i64 x3, .int .i64 e3] 37)) w2.heap.size 37 #[.slice A n c, .int .i64 x1, .int .i64 e1]) := Lib.hid ((G2_5.out.below hc6 G2_5.out.lt).alloc _)
  have G3_6 : Hid (Blk (w6.alloc (.cells #[.slice A n c, .int .i64 x3, .int .i64 e3] 37)) w3.heap.size 37 #[.slice A n c, .int .i64 x2, .int .i64 e2]) := Lib.hid ((G3_5.out.below hc6 G3_5.out.lt).alloc _)
  have G4_6 : Hid (Blk (w6.alloc (.cells #[.slice A n c, .int .i64 x3, .int .i64 e3] 37)) w4.heap.size 37 #[.slice A n c, .int .i64 x2, .int .i64 e2]) := Lib.hid ((G4_5.out.below hc6 G4_5.out.lt).alloc _)
  have G5_6 : Hid (Blk (w6.alloc (.cells #[.slice A n c, .int .i64 x3, .int .i64 e3] 37)) w5.heap.size 37 #[.slice A n c, .int .i64 x3, .int .i64 e3]) := Lib.hid ((G5_5.out.below hc6 G5_5.out.lt).alloc _)
  have q60 := X6.out.cell 0
  have q61 := X6.out.cell 1
  have q62 := X6.out.cell 2
  simp only [List.getElem?_toArray, List.getElem?_cons_zero, List.getElem?_cons_succ] at q60 q61 q62
  clear hc6 hs6 X5 G1_5 G2_5 G3_5 G4_5 G5_5 hb5
  go_wp2_with fail
  clear q60 q61 q62
  refine (HP4.out _ (H.out.below hb6) hb6.size).mono ?_
  rintro e w7 ⟨rfl, hc7⟩
  have hs7 := hc7.size
  have hb7 : Below w.heap.size w (w7.alloc (.cells #[.slice A n c, .int .i64 x4, .int .i64 e4] 37)) := (hb6.trans (hc7.mono hb6.size)).alloc (by have := hb6.size; omega) _
  have X7 : Hid (Blk (w7.alloc (.cells #[.slice A n c, .int .i64 x4, .int .i64 e4] 37)) w.heap.size 37 #[.slice A n c, .int .i64 x, .int .i64 err]) := Lib.hid ((X6.out.below hc7 X6.out.lt).alloc _)
  have G7_7 : Hid (Blk (w7.alloc (.cells #[.slice A n c, .int .i64 x4, .int .i64 e4] 37)) w7.heap.size 37 #[.slice A n c, .int .i64 x4, .int .i64 e4]) := Lib.hid (Blk.new w7 _ _)
  have G1_7 : Hid (Blk (w7.alloc (.cells #[.slice A n c, .int .i64 x4, .int .i64 e4] 37)) w1.heap.size 37 #[.slice A n c, .int .i64 x1, .int .i64 e1]) := Lib.hid ((G1_6.out.below hc7 G1_6.out.lt).alloc _)
  have G2_7 : Hid (Blk (w7.alloc (.cells #[.slice A n c, .int .i64 x4, .int .i64 e4] 37)) w2.heap.size 37 #[.slice A n c, .int .i64 x1, .int .i64 e1]) := Lib.hid ((G2_6.out.below hc7 G2_6.out.lt).alloc _)
  have G3_7 : Hid (Blk (w7.alloc (.cells #[.slice A n c, .int .i64 x4, .int .i64 e4] 37)) w3.heap.size 37 #[.slice A n c, .int .i64 x2, .int .i64 e2]) := Lib.hid ((G3_6.out.below hc7 G3_6.out.lt).alloc _)
  have G4_7 : Hid (Blk (w7.alloc (.cells #[.slice A n c, .int .i64 x4, .int .i64 e4] 37)) w4.heap.size 37 #[.slice A n c, .int .i64 x2, .int .i64 e2]) := Lib.hid ((G4_6.out.below hc7 G4_6.out.lt).alloc _)
  have G5_7 : Hid (Blk (w7.alloc (.cells #[.slice A n c, .int .i64 x4, .int .i64 e4] 37)) w5.heap.size 37 #[.slice A n c, .int .i64 x3, .int .i64 e3]) := Lib.hid ((G5_6.out.below hc7 G5_6.out.lt).alloc _)
  have G6_7 : Hid (Blk (w7.alloc (.cells #[.slice A n c, .int .i64 x4, .int .i64 e4] 37)) w6.heap.size 37 #[.slice A n c, .int .i64 x3, .int .i64 e3]) := Lib.hid ((G6_6.out.below hc7 G6_6.out.lt).alloc _)
  have q70 := X7.out.cell 0
  have q71 := X7.out.cell 1
  have q72 := X7.out.cell 2
  simp only [List.getElem?_toArray, List.getElem?_cons_zero, List.getElem?_cons_succ] at q70 q71 q72
  clear hc7 hs7 X6 G1_6 G2_6 G3_6 G4_6 G5_6 G6_6 hb6
  go_wp2_with fail
  clear q70 q71 q72
  refine (HQ4.out _ (H.out.below hb7) hb7.size).mono ?_
  rintro e w8 ⟨rfl, hc8⟩
  have hs8 := hc8.size
  have hb8 : Below w.heap.size w (w8.alloc (.cells #[.slice A n c, .int .i64 x4, .int .i64 e4] 37)) := (hb7.trans (hc8.mono hb7.size)).alloc (by have := hb7.size; omega) _
  have X8 : Hid (Blk (w8.alloc (.cells #[.slice A n c, .int .i64 x4, .int .i64 e4] 37)) w.heap.size 37 #[.slice A n c, .int .i64 x, .int .i64 err]) := Lib.hid ((X7.out.below hc8 X7.out.lt).alloc _)
  have G8_8 : Hid (Blk (w8.alloc (.cells #[.slice A n c, .int .i64 x4, .int .i64 e4] 37)) w8.heap.size 37 #[.slice A n c, .int .i64 x4, .int .i64 e4]) := Lib.hid (Blk.new w8 _ _)
  have G1_8 : Hid (Blk (w8.alloc (.cells #[.slice A n c, .int .i64 x4, .int .i64 e4] 37)) w1.heap.size 37 #[.slice A n c, .int .i64 x1, .int .i64 e1]) := Lib.hid ((G1_7.out.below hc8 G1_7.out.lt).alloc _)
  have G2_8 : Hid (Blk (w8.alloc (.cells #[.slice A n c, .int .i64 x4, .int .i64 e4] 37)) w2.heap.size 37 #[.slice A n c, .int .i64 x1, .int .i64 e1]) := Lib.hid ((G2_7.out.below hc8 G2_7.out.lt).alloc _)
  have G3_8 : Hid (Blk (w8.alloc (.cells #[.slice A n c, .int .i64 x4, .int .i64 e4] 37)) w3.heap.size 37 #[.slice A n c, .int .i64 x2, .int .i64 e2]) := Lib.hid ((G3_7.out.below hc8 G3_7.out.lt).alloc _)
  have G4_8 : Hid (Blk (w8.alloc (.cells #[.slice A n c, .int .i64 x4, .int .i64 e4] 37)) w4.heap.size 37 #[.slice A n c, .int .i64 x2, .int .i64 e2]) := Lib.hid ((G4_7.out.below hc8 G4_7.out.lt).alloc _)
  have G5_8 : Hid (Blk (w8.alloc (.cells #[.slice A n c, .int .i64 x4, .int .i64 e4] 37)) w5.heap.size 37 #[.slice A n c, .int .i64 x3, .int .i64 e3]) := Lib.hid ((G5_7.out.below hc8 G5_7.out.lt).alloc _)
  have G6_8 : Hid (Blk (w8.alloc (.cells #[.slice A n c, .int .i64 x4, .int .i64 e4] 37)) w6.heap.size 37 #[.slice A n c, .int .i64 x3, .int .i64 e3]) := Lib.hid ((G6_7.out.below hc8 G6_7.out.lt).alloc _)
  have G7_8 : Hid (Blk (w8.alloc (.cells #[.slice A n c, .int .i64 x4, .int .i64 e4] 37)) w7.heap.size 37 #[.slice A n c, .int .i64 x4, .int .i64 e4]) := Lib.hid ((G7_7.out.below hc8 G7_7.out.lt).alloc _)
  have q80 := X8.out.cell 0
  have q81 := X8.out.cell 1
  have q82 := X8.out.cell 2
  simp only [List.getElem?_toArray, List.getElem?_cons_zero, List.getElem?_cons_succ] at q80 q81 q82
  clear hc8 hs8 X7 G1_7 G2_7 G3_7 G4_7 G5_7 G6_7 G7_7 hb7
  go_wp2_with fail
  clear q80 q81 q82
  refine (HP5.out _ (H.out.below hb8) hb8.size).mono ?_
  rintro e w9 ⟨rfl, hc9⟩
  have hs9 := hc9.size
  have hb9 : Below w.heap.size w (w9.alloc (.cells #[.slice A n c, .int .i64 x5, .int .i64 e5] 37)) := (hb8.trans (hc9.mono hb8.size)).alloc (by have := hb8.size; omega) _
  have X9 : Hid (Blk (w9.alloc (.cells #[.slice A n c, .int .i64 x5, .int .i64 e5] 37)) w.heap.size 37 #[.slice A n c, .int .i64 x, .int .i64 err]) := Lib.hid ((X8.out.below hc9 X8.out.lt).alloc _)
  have G9_9 : Hid (Blk (w9.alloc (.cells #[.slice A n c, .int .i64 x5, .int .i64 e5] 37)) w9.heap.size 37 #[.slice A n c, .int .i64 x5, .int .i64 e5]) := Lib.hid (Blk.new w9 _ _)
  have G1_9 : Hid (Blk (w9.alloc (.cells #[.slice A n c, .int .i64 x5, .int .i64 e5] 37)) w1.heap.size 37 #[.slice A n c, .int .i64 x1, .int .i64 e1]) := Lib.hid ((G1_8.out.below hc9 G1_8.out.lt).alloc _)
  have G2_9 : Hid (Blk (w9.alloc (.cells #[.slice A n c, .int .i64 x5, .int .i64 e5] 37)) w2.heap.size 37 #[.slice A n c, .int .i64 x1, .int .i64 e1]) := Lib.hid ((G2_8.out.below hc9 G2_8.out.lt).alloc _)
  have G3_9 : Hid (Blk (w9.alloc (.cells #[.slice A n c, .int .i64 x5, .int .i64 e5] 37)) w3.heap.size 37 #[.slice A n c, .int .i64 x2, .int .i64 e2]) := Lib.hid ((G3_8.out.below hc9 G3_8.out.lt).alloc _)
  have G4_9 : Hid (Blk (w9.alloc (.cells #[.slice A n c, .int .i64 x5, .int .i64 e5] 37)) w4.heap.size 37 #[.slice A n c, .int .i64 x2, .int .i64 e2]) := Lib.hid ((G4_8.out.below hc9 G4_8.out.lt).alloc _)
  have G5_9 : Hid (Blk (w9.alloc (.cells #[.slice A n c, .int .i64 x5, .int .i64 e5] 37)) w5.heap.size 37 #[.slice A n c, .int .i64 x3, .int .i64 e3]) := Lib.hid ((G5_8.out.below hc9 G5_8.out.lt).alloc _)
  have G6_9 : Hid (Blk (w9.alloc (.cells #[.slice A n c, .int .i64 x5, .int .i64 e5] 37)) w6.heap.size 37 #[.slice A n c, .int .i64 x3, .int .i64 e3]) := Lib.hid ((G6_8.out.below hc9 G6_8.out.lt).alloc _)
  have G7_9 : Hid (Blk (w9.alloc (.cells #[.slice A n c, .int .i64 x5, .int .i64 e5] 37)) w7.heap.size 37 #[.slice A n c, .int .i64 x4, .int .i64 e4]) := Lib.hid ((G7_8.out.below hc9 G7_8.out.lt).alloc _)
  have G8_9 : Hid (Blk (w9.alloc (.cells #[.slice A n c, .int .i64 x5, .int .i64 e5] 37)) w8.heap.size 37 #[.slice A n c, .int .i64 x4, .int .i64 e4]) := Lib.hid ((G8_8.out.below hc9 G8_8.out.lt).alloc _)
  have q90 := X9.out.cell 0
  have q91 := X9.out.cell 1
  have q92 := X9.out.cell 2
  simp only [List.getElem?_toArray, List.getElem?_cons_zero, List.getElem?_cons_succ] at q90 q91 q92
  clear hc9 hs9 X8 G1_8 G2_8 G3_8 G4_8 G5_8 G6_8 G7_8 G8_8 hb8
  go_wp2_with fail
  clear q90 q91 q92
  refine (HQ5.out _ (H.out.below hb9) hb9.size).mono ?_
  rintro e w10 ⟨rfl, hc10⟩
  have hs10 := hc10.size
  have hb10 : Below w.heap.size w (w10.alloc (.cells #[.slice A n c, .int .i64 x5, .int .i64 e5] 37)) := (hb9.trans (hc10.mono hb9.size)).alloc (by have := hb9.size; omega) _
  have X10 : Hid (Blk (w10.alloc (.cells #[.slice A n c, .int .i64 x5, .int .i64 e5] 37)) w.heap.size 37 #[.slice A n c, .int .i64 x, .int .i64 err]) := Lib.hid ((X9.out.below hc10 X9.out.lt).alloc _)
  have G10_10 : Hid (Blk (w10.alloc (.cells #[.slice A n c, .int .i64 x5, .int .i64 e5] 37)) w10.heap.size 37 #[.slice A n c, .int .i64 x5, .int .i64 e5]) := Lib.hid (Blk.new w10 _ _)
  have G1_10 : Hid (Blk (w10.alloc (.cells #[.slice A n c, .int .i64 x5, .int .i64 e5] 37)) w1.heap.size 37 #[.slice A n c, .int .i64 x1, .int .i64 e1]) := Lib.hid ((G1_9.out.below hc10 G1_9.out.lt).alloc _)
  have G2_10 : Hid (Blk (w10.alloc (.cells #[.slice A n c, .int .i64 x5, .int .i64 e5] 37)) w2.heap.size 37 #[.slice A n c, .int .i64 x1, .int .i64 e1]) := Lib.hid ((G2_9.out.below hc10 G2_9.out.lt).alloc _)
  have G3_10 : Hid (Blk (w10.alloc (.cells #[.slice A n c, .int .i64 x5, .int .i64 e5] 37)) w3.heap.size 37 #[.slice A n c, .int .i64 x2, .int .i64 e2]) := Lib.hid ((G3_9.out.below hc10 G3_9.out.lt).alloc _)
  have G4_10 : Hid (Blk (w10.alloc (.cells #[.slice A n c, .int .i64 x5, .int .i64 e5] 37)) w4.heap.size 37 #[.slice A n c, .int .i64 x2, .int .i64 e2]) := Lib.hid ((G4_9.out.below hc10 G4_9.out.lt).alloc _)
  have G5_10 : Hid (Blk (w10.alloc (.cells #[.slice A n c, .int .i64 x5, .int .i64 e5] 37)) w5.heap.size 37 #[.slice A n c, .int .i64 x3, .int .i64 e3]) := Lib.hid ((G5_9.out.below hc10 G5_9.out.lt).alloc _)
  have G6_10 : Hid (Blk (w10.alloc (.cells #[.slice A n c, .int .i64 x5, .int .i64 e5] 37)) w6.heap.size 37 #[.slice A n c, .int .i64 x3, .int .i64 e3]) := Lib.hid ((G6_9.out.below hc10 G6_9.out.lt).alloc _)
  have G7_10 : Hid (Blk (w10.alloc (.cells #[.slice A n c, .int .i64 x5, .int .i64 e5] 37)) w7.heap.size 37 #[.slice A n c, .int .i64 x4, .int .i64 e4]) := Lib.hid ((G7_9.out.below hc10 G7_9.out.lt).alloc _)
  have G8_10 : Hid (Blk (w10.alloc (.cells #[.slice A n c, .int .i64 x5, .int .i64 e5] 37)) w8.heap.size 37 #[.slice A n c, .int .i64 x4, .int .i64 e4]) := Lib.hid ((G8_9.out.below hc10 G8_9.out.lt).alloc _)
  have G9_10 : Hid (Blk (w10.alloc (.cells #[.slice A n c, .int .i64 x5, .int .i64 e5] 37)) w9.heap.size 37 #[.slice A n c, .int .i64 x5, .int .i64 e5]) := Lib.hid ((G9_9.out.below hc10 G9_9.out.lt).alloc _)
  have q100 := X10.out.cell 0
  have q101 := X10.out.cell 1
  have q102 := X10.out.cell 2
  simp only [List.getElem?_toArray, List.getElem?_cons_zero, List.getElem?_cons_succ] at q100 q101 q102
  clear hc10 hs10 X9 G1_9 G2_9 G3_9 G4_9 G5_9 G6_9 G7_9 G8_9 G9_9 hb9
  go_wp2_with fail
  clear q100 q101 q102
  have hbz := hb10.size
  obtain ⟨W0, hW0⟩ : ∃ W0, W0 = (w10.alloc (.cells #[.slice A n c, .int .i64 x5, .int .i64 e5] 37)) := ⟨_, rfl⟩
  rw [← hW0] at hb10 hbz X10 G1_10 G2_10 G3_10 G4_10 G5_10 G6_10 G7_10 G8_10 G9_10 G10_10 ⊢
  clear hW0
  have BIG : ∀ w' : World, Below W0.heap.size W0 w' → (Below W0.heap.size W0 w' ∧ w'.cell? ⟨w.heap.size, 0, none⟩ = some (.slice A n c) ∧ w'.cell? ⟨w.heap.size, 1, none⟩ = some (.int .i64 x) ∧ w'.cell? ⟨w.heap.size, 2, none⟩ = some (.int .i64 err) ∧ w'.cell? ⟨w1.heap.size, 0, none⟩ = some (.slice A n c) ∧ w'.cell? ⟨w1.heap.size, 1, none⟩ = some (.int .i64 x1) ∧ w'.cell? ⟨w1.heap.size, 2, none⟩ = some (.int .i64 e1) ∧ w'.cell? ⟨w2.heap.size, 0, none⟩ = some (.slice A n c) ∧ w'.cell? ⟨w2.heap.size, 1, none⟩ = some (.int .i64 x1) ∧ w'.cell? ⟨w2.heap.size, 2, none⟩ = some (.int .i64 e1) ∧ w'.cell? ⟨w3.heap.size, 0, none⟩ = some (.slice A n c) ∧ w'.cell? ⟨w3.heap.size, 1, none⟩ = some (.int .i64 x2) ∧ w'.cell? ⟨w3.heap.size, 2, none⟩ = some (.int .i64 e2) ∧ w'.cell? ⟨w4.heap.size, 0, none⟩ = some (.slice A n c) ∧ w'.cell? ⟨w4.heap.size, 1, none⟩ = some (.int .i64 x2) ∧ w'.cell? ⟨w4.heap.size, 2, none⟩ = some (.int .i64 e2) ∧ w'.cell? ⟨w5.heap.size, 0, none⟩ = some (.slice A n c) ∧ w'.cell? ⟨w5.heap.size, 1, none⟩ = some (.int .i64 x3) ∧ w'.cell? ⟨w5.heap.size, 2, none⟩ = some (.int .i64 e3) ∧ w'.cell? ⟨w6.heap.size, 0, none⟩ = some (.slice A n c) ∧ w'.cell? ⟨w6.heap.size, 1, none⟩ = some (.int .i64 x3) ∧ w'.cell? ⟨w6.heap.size, 2, none⟩ = some (.int .i64 e3) ∧ w'.cell? ⟨w7.heap.size, 0, none⟩ = some (.slice A n c) ∧ w'.cell? ⟨w7.heap.size, 1, none⟩ = some (.int .i64 x4) ∧ w'.cell? ⟨w7.heap.size, 2, none⟩ = some (.int .i64 e4) ∧ w'.cell? ⟨w8.heap.size, 0, none⟩ = some (.slice A n c) ∧ w'.cell? ⟨w8.heap.size, 1, none⟩ = some (.int .i64 x4) ∧ w'.cell? ⟨w8.heap.size, 2, none⟩ = some (.int .i64 e4) ∧ w'.cell? ⟨w9.heap.size, 0, none⟩ = some (.slice A n c) ∧ w'.cell? ⟨w9.heap.size, 1, none⟩ = some (.int .i64 x5) ∧ w'.cell? ⟨w9.heap.size, 2, none⟩ = some (.int .i64 e5) ∧ w'.cell? ⟨w10.heap.size, 0, none⟩ = some (.slice A n c) ∧ w'.cell? ⟨w10.heap.size, 1, none⟩ = some (.int .i64 x5) ∧ w'.cell? ⟨w10.heap.size, 2, none⟩ = some (.int .i64 e5)) := by
    intro w' hb
    refine ⟨hb, (X10.out.below hb X10.out.lt).cell 0, (X10.out.below hb X10.out.lt).cell 1, (X10.out.below hb X10.out.lt).cell 2, (G1_10.out.below hb G1_10.out.lt).cell 0, (G1_10.out.below hb G1_10.out.lt).cell 1, (G1_10.out.below hb G1_10.out.lt).cell 2, (G2_10.out.below hb G2_10.out.lt).cell 0, (G2_10.out.below hb G2_10.out.lt).cell 1, (G2_10.out.below hb G2_10.out.lt).cell 2, (G3_10.out.below hb G3_10.out.lt).cell 0, (G3_10.out.below hb G3_10.out.lt).cell 1, (G3_10.out.below hb G3_10.out.lt).cell 2, (G4_10.out.below hb G4_10.out.lt).cell 0, (G4_10.out.below hb G4_10.out.lt).cell 1, (G4_10.out.below hb G4_10.out.lt).cell 2, (G5_10.out.below hb G5_10.out.lt).cell 0, (G5_10.out.below hb G5_10.out.lt).cell 1, (G5_10.out.below hb G5_10.out.lt).cell 2, (G6_10.out.below hb G6_10.out.lt).cell 0, (G6_10.out.below hb G6_10.out.lt).cell 1, (G6_10.out.below hb G6_10.out.lt).cell 2, (G7_10.out.below hb G7_10.out.lt).cell 0, (G7_10.out.below hb G7_10.out.lt).cell 1, (G7_10.out.below hb G7_10.out.lt).cell 2, (G8_10.out.below hb G8_10.out.lt).cell 0, (G8_10.out.below hb G8_10.out.lt).cell 1, (G8_10.out.below hb G8_10.out.lt).cell 2, (G9_10.out.below hb G9_10.out.lt).cell 0, (G9_10.out.below hb G9_10.out.lt).cell 1, (G9_10.out.below hb G9_10.out.lt).cell 2, (G10_10.out.below hb G10_10.out.lt).cell 0, (G10_10.out.below hb G10_10.out.lt).cell 1, (G10_10.out.below hb G10_10.out.lt).cell 2⟩
  have RDOK : Hid (∀ w' : World, (Below W0.heap.size W0 w' ∧ w'.cell? ⟨w.heap.size, 0, none⟩ = some (.slice A n c) ∧ w'.cell? ⟨w.heap.size, 1, none⟩ = some (.int .i64 x) ∧ w'.cell? ⟨w.heap.size, 2, none⟩ = some (.int .i64 err) ∧ w'.cell? ⟨w1.heap.size, 0, none⟩ = some (.slice A n c) ∧ w'.cell? ⟨w1.heap.size, 1, none⟩ = some (.int .i64 x1) ∧ w'.cell? ⟨w1.heap.size, 2, none⟩ = some (.int .i64 e1) ∧ w'.cell? ⟨w2.heap.size, 0, none⟩ = some (.slice A n c) ∧ w'.cell? ⟨w2.heap.size, 1, none⟩ = some (.int .i64 x1) ∧ w'.cell? ⟨w2.heap.size, 2, none⟩ = some (.int .i64 e1) ∧ w'.cell? ⟨w3.heap.size, 0, none⟩ = some (.slice A n c) ∧ w'.cell? ⟨w3.heap.size, 1, none⟩ = some (.int .i64 x2) ∧ w'.cell? ⟨w3.heap.size, 2, none⟩ = some (.int .i64 e2) ∧ w'.cell? ⟨w4.heap.size, 0, none⟩ = some (.slice A n c) ∧ w'.cell? ⟨w4.heap.size, 1, none⟩ = some (.int .i64 x2) ∧ w'.cell? ⟨w4.heap.size, 2, none⟩ = some (.int .i64 e2) ∧ w'.cell? ⟨w5.heap.size, 0, none⟩ = some (.slice A n c) ∧ w'.cell? ⟨w5.heap.size, 1, none⟩ = some (.int .i64 x3) ∧ w'.cell? ⟨w5.heap.size, 2, none⟩ = some (.int .i64 e3) ∧ w'.cell? ⟨w6.heap.size, 0, none⟩ = some (.slice A n c) ∧ w'.cell? ⟨w6.heap.size, 1, none⟩ = some (.int .i64 x3) ∧ w'.cell? ⟨w6.heap.size, 2, none⟩ = some (.int .i64 e3) ∧ w'.cell? ⟨w7.heap.size, 0, none⟩ = some (.slice A n c) ∧ w'.cell? ⟨w7.heap.size, 1, none⟩ = some (.int .i64 x4) ∧ w'.cell? ⟨w7.heap.size, 2, none⟩ = some (.int .i64 e4) ∧ w'.cell? ⟨w8.heap.size, 0, none⟩ = some (.slice A n c) ∧ w'.cell? ⟨w8.heap.size, 1, none⟩ = some (.int .i64 x4) ∧ w'.cell? ⟨w8.heap.size, 2, none⟩ = some (.int .i64 e4) ∧ w'.cell? ⟨w9.heap.size, 0, none⟩ = some (.slice A n c) ∧ w'.cell? ⟨w9.heap.size, 1, none⟩ = some (.int .i64 x5) ∧ w'.cell? ⟨w9.heap.size, 2, none⟩ = some (.int .i64 e5) ∧ w'.cell? ⟨w10.heap.size, 0, none⟩ = some (.slice A n c) ∧ w'.cell? ⟨w10.heap.size, 1, none⟩ = some (.int .i64 x5) ∧ w'.cell? ⟨w10.heap.size, 2, none⟩ = some (.int .i64 e5)) → Rd w' w.heap.size A n l ∧ w.heap.size ≤ w'.heap.size) := by
    intro w' hs
    have hb : Below w.heap.size w w' := hb10.trans (hs.1.mono hbz)
    exact ⟨H.out.below hb, hb.size⟩
  have STEP : Hid (∀ u1 u2 : World, Below u1.heap.size u1 u2 → (Below W0.heap.size W0 u1 ∧ u1.cell? ⟨w.heap.size, 0, none⟩ = some (.slice A n c) ∧ u1.cell? ⟨w.heap.size, 1, none⟩ = some (.int .i64 x) ∧ u1.cell? ⟨w.heap.size, 2, none⟩ = some (.int .i64 err) ∧ u1.cell? ⟨w1.heap.size, 0, none⟩ = some (.slice A n c) ∧ u1.cell? ⟨w1.heap.size, 1, none⟩ = some (.int .i64 x1) ∧ u1.cell? ⟨w1.heap.size, 2, none⟩ = some (.int .i64 e1) ∧ u1.cell? ⟨w2.heap.size, 0, none⟩ = some (.slice A n c) ∧ u1.cell? ⟨w2.heap.size, 1, none⟩ = some (.int .i64 x1) ∧ u1.cell? ⟨w2.heap.size, 2, none⟩ = some (.int .i64 e1) ∧ u1.cell? ⟨w3.heap.size, 0, none⟩ = some (.slice A n c) ∧ u1.cell? ⟨w3.heap.size, 1, none⟩ = some (.int .i64 x2) ∧ u1.cell? ⟨w3.heap.size, 2, none⟩ = some (.int .i64 e2) ∧ u1.cell? ⟨w4.heap.size, 0, none⟩ = some (.slice A n c) ∧ u1.cell? ⟨w4.heap.size, 1, none⟩ = some (.int .i64 x2) ∧ u1.cell? ⟨w4.heap.size, 2, none⟩ = some (.int .i64 e2) ∧ u1.cell? ⟨w5.heap.size, 0, none⟩ = some (.slice A n c) ∧ u1.cell? ⟨w5.heap.size, 1, none⟩ = some (.int .i64 x3) ∧ u1.cell? ⟨w5.heap.size, 2, none⟩ = some (.int .i64 e3) ∧ u1.cell? ⟨w6.heap.size, 0, none⟩ = some (.slice A n c) ∧ u1.cell? ⟨w6.heap.size, 1, none⟩ = some (.int .i64 x3) ∧ u1.cell? ⟨w6.heap.size, 2, none⟩ = some (.int .i64 e3) ∧ u1.cell? ⟨w7.heap.size, 0, none⟩ = some (.slice A n c) ∧ u1.cell? ⟨w7.heap.size, 1, none⟩ = some (.int .i64 x4) ∧ u1.cell? ⟨w7.heap.size, 2, none⟩ = some (.int .i64 e4) ∧ u1.cell? ⟨w8.heap.size, 0, none⟩ = some (.slice A n c) ∧ u1.cell? ⟨w8.heap.size, 1, none⟩ = some (.int .i64 x4) ∧ u1.cell? ⟨w8.heap.size, 2, none⟩ = some (.int .i64 e4) ∧ u1.cell? ⟨w9.heap.size, 0, none⟩ = some (.slice A n c) ∧ u1.cell? ⟨w9.heap.size, 1, none⟩ = some (.int .i64 x5) ∧ u1.cell? ⟨w9.heap.size, 2, none⟩ = some (.int .i64 e5) ∧ u1.cell? ⟨w10.heap.size, 0, none⟩ = some (.slice A n c) ∧ u1.cell? ⟨w10.heap.size, 1, none⟩ = some (.int .i64 x5) ∧ u1.cell? ⟨w10.heap.size, 2, none⟩ = some (.int .i64 e5)) → (Below W0.heap.size W0 u2 ∧ u2.cell? ⟨w.heap.size, 0, none⟩ = some (.slice A n c) ∧ u2.cell? ⟨w.heap.size, 1, none⟩ = some (.int .i64 x) ∧ u2.cell? ⟨w.heap.size, 2, none⟩ = some (.int .i64 err) ∧ u2.cell? ⟨w1.heap.size, 0, none⟩ = some (.slice A n c) ∧ u2.cell? ⟨w1.heap.size, 1, none⟩ = some (.int .i64 x1) ∧ u2.cell? ⟨w1.heap.size, 2, none⟩ = some (.int .i64 e1) ∧ u2.cell? ⟨w2.heap.size, 0, none⟩ = some (.slice A n c) ∧ u2.cell? ⟨w2.heap.size, 1, none⟩ = some (.int .i64 x1) ∧ u2.cell? ⟨w2.heap.size, 2, none⟩ = some (.int .i64 e1) ∧ u2.cell? ⟨w3.heap.size, 0, none⟩ = some (.slice A n c) ∧ u2.cell? ⟨w3.heap.size, 1, none⟩ = some (.int .i64 x2) ∧ u2.cell? ⟨w3.heap.size, 2, none⟩ = some (.int .i64 e2) ∧ u2.cell? ⟨w4.heap.size, 0, none⟩ = some (.slice A n c) ∧ u2.cell? ⟨w4.heap.size, 1, none⟩ = some (.int .i64 x2) ∧ u2.cell? ⟨w4.heap.size, 2, none⟩ = some (.int .i64 e2) ∧ u2.cell? ⟨w5.heap.size, 0, none⟩ = some (.slice A n c) ∧ u2.cell? ⟨w5.heap.size, 1, none⟩ = some (.int .i64 x3) ∧ u2.cell? ⟨w5.heap.size, 2, none⟩ = some (.int .i64 e3) ∧ u2.cell? ⟨w6.heap.size, 0, none⟩ = some (.slice A n c) ∧ u2.cell? ⟨w6.heap.size, 1, none⟩ = some (.int .i64 x3) ∧ u2.cell? ⟨w6.heap.size, 2, none⟩ = some (.int .i64 e3) ∧ u2.cell? ⟨w7.heap.size, 0, none⟩ = some (.slice A n c) ∧ u2.cell? ⟨w7.heap.size, 1, none⟩ = some (.int .i64 x4) ∧ u2.cell? ⟨w7.heap.size, 2, none⟩ = some (.int .i64 e4) ∧ u2.cell? ⟨w8.heap.size, 0, none⟩ = some (.slice A n c) ∧ u2.cell? ⟨w8.heap.size, 1, none⟩ = some (.int .i64 x4) ∧ u2.cell? ⟨w8.heap.size, 2, none⟩ = some (.int .i64 e4) ∧ u2.cell? ⟨w9.heap.size, 0, none⟩ = some (.slice A n c) ∧ u2.cell? ⟨w9.heap.size, 1, none⟩ = some (.int .i64 x5) ∧ u2.cell? ⟨w9.heap.size, 2, none⟩ = some (.int .i64 e5) ∧ u2.cell? ⟨w10.heap.size, 0, none⟩ = some (.slice A n c) ∧ u2.cell? ⟨w10.heap.size, 1, none⟩ = some (.int .i64 x5) ∧ u2.cell? ⟨w10.heap.size, 2, none⟩ = some (.int .i64 e5))) := by
    intro u1 u2 hb hs
    exact BIG _ (hs.1.trans (hb.mono hs.1.size))
  have START : Hid (Below W0.heap.size W0 W0.drew ∧ W0.drew.cell? ⟨w.heap.size, 0, none⟩ = some (.slice A n c) ∧ W0.drew.cell? ⟨w.heap.size, 1, none⟩ = some (.int .i64 x) ∧ W0.drew.cell? ⟨w.heap.size, 2, none⟩ = some (.int .i64 err) ∧ W0.drew.cell? ⟨w1.heap.size, 0, none⟩ = some (.slice A n c) ∧ W0.drew.cell? ⟨w1.heap.size, 1, none⟩ = some (.int .i64 x1) ∧ W0.drew.cell? ⟨w1.heap.size, 2, none⟩ = some (.int .i64 e1) ∧ W0.drew.cell? ⟨w2.heap.size, 0, none⟩ = some (.slice A n c) ∧ W0.drew.cell? ⟨w2.heap.size, 1, none⟩ = some (.int .i64 x1) ∧ W0.drew.cell? ⟨w2.heap.size, 2, none⟩ = some (.int .i64 e1) ∧ W0.drew.cell? ⟨w3.heap.size, 0, none⟩ = some (.slice A n c) ∧ W0.drew.cell? ⟨w3.heap.size, 1, none⟩ = some (.int .i64 x2) ∧ W0.drew.cell? ⟨w3.heap.size, 2, none⟩ = some (.int .i64 e2) ∧ W0.drew.cell? ⟨w4.heap.size, 0, none⟩ = some (.slice A n c) ∧ W0.drew.cell? ⟨w4.heap.size, 1, none⟩ = some (.int .i64 x2) ∧ W0.drew.cell? ⟨w4.heap.size, 2, none⟩ = some (.int .i64 e2) ∧ W0.drew.cell? ⟨w5.heap.size, 0, none⟩ = some (.slice A n c) ∧ W0.drew.cell? ⟨w5.heap.size, 1, none⟩ = some (.int .i64 x3) ∧ W0.drew.cell? ⟨w5.heap.size, 2, none⟩ = some (.int .i64 e3) ∧ W0.drew.cell? ⟨w6.heap.size, 0, none⟩ = some (.slice A n c) ∧ W0.drew.cell? ⟨w6.heap.size, 1, none⟩ = some (.int .i64 x3) ∧ W0.drew.cell? ⟨w6.heap.size, 2, none⟩ = some (.int .i64 e3) ∧ W0.drew.cell? ⟨w7.heap.size, 0, none⟩ = some (.slice A n c) ∧ W0.drew.cell? ⟨w7.heap.size, 1, none⟩ = some (.int .i64 x4) ∧ W0.drew.cell? ⟨w7.heap.size, 2, none⟩ = some (.int .i64 e4) ∧ W0.drew.cell? ⟨w8.heap.size, 0, none⟩ = some (.slice A n c) ∧ W0.drew.cell? ⟨w8.heap.size, 1, none⟩ = some (.int .i64 x4) ∧ W0.drew.cell? ⟨w8.heap.size, 2, none⟩ = some (.int .i64 e4) ∧ W0.drew.cell? ⟨w9.heap.size, 0, none⟩ = some (.slice A n c) ∧ W0.drew.cell? ⟨w9.heap.size, 1, none⟩ = some (.int .i64 x5) ∧ W0.drew.cell? ⟨w9.heap.size, 2, none⟩ = some (.int .i64 e5) ∧ W0.drew.cell? ⟨w10.heap.size, 0, none⟩ = some (.slice A n c) ∧ W0.drew.cell? ⟨w10.heap.size, 1, none⟩ = some (.int .i64 x5) ∧ W0.drew.cell? ⟨w10.heap.size, 2, none⟩ = some (.int .i64 e5)) := BIG _ (Below.refl _ _).drew
  have FIN : Hid (∀ w' : World, (Below W0.heap.size W0 w' ∧ w'.cell? ⟨w.heap.size, 0, none⟩ = some (.slice A n c) ∧ w'.cell? ⟨w.heap.size, 1, none⟩ = some (.int .i64 x) ∧ w'.cell? ⟨w.heap.size, 2, none⟩ = some (.int .i64 err) ∧ w'.cell? ⟨w1.heap.size, 0, none⟩ = some (.slice A n c) ∧ w'.cell? ⟨w1.heap.size, 1, none⟩ = some (.int .i64 x1) ∧ w'.cell? ⟨w1.heap.size, 2, none⟩ = some (.int .i64 e1) ∧ w'.cell? ⟨w2.heap.size, 0, none⟩ = some (.slice A n c) ∧ w'.cell? ⟨w2.heap.size, 1, none⟩ = some (.int .i64 x1) ∧ w'.cell? ⟨w2.heap.size, 2, none⟩ = some (.int .i64 e1) ∧ w'.cell? ⟨w3.heap.size, 0, none⟩ = some (.slice A n c) ∧ w'.cell? ⟨w3.heap.size, 1, none⟩ = some (.int .i64 x2) ∧ w'.cell? ⟨w3.heap.size, 2, none⟩ = some (.int .i64 e2) ∧ w'.cell? ⟨w4.heap.size, 0, none⟩ = some (.slice A n c) ∧ w'.cell? ⟨w4.heap.size, 1, none⟩ = some (.int .i64 x2) ∧ w'.cell? ⟨w4.heap.size, 2, none⟩ = some (.int .i64 e2) ∧ w'.cell? ⟨w5.heap.size, 0, none⟩ = some (.slice A n c) ∧ w'.cell? ⟨w5.heap.size, 1, none⟩ = some (.int .i64 x3) ∧ w'.cell? ⟨w5.heap.size, 2, none⟩ = some (.int .i64 e3) ∧ w'.cell? ⟨w6.heap.size, 0, none⟩ = some (.slice A n c) ∧ w'.cell? ⟨w6.heap.size, 1, none⟩ = some (.int .i64 x3) ∧ w'.cell? ⟨w6.heap.size, 2, none⟩ = some (.int .i64 e3) ∧ w'.cell? ⟨w7.heap.size, 0, none⟩ = some (.slice A n c) ∧ w'.cell? ⟨w7.heap.size, 1, none⟩ = some (.int .i64 x4) ∧ w'.cell? ⟨w7.heap.size, 2, none⟩ = some (.int .i64 e4) ∧ w'.cell? ⟨w8.heap.size, 0, none⟩ = some (.slice A n c) ∧ w'.cell? ⟨w8.heap.size, 1, none⟩ = some (.int .i64 x4) ∧ w'.cell? ⟨w8.heap.size, 2, none⟩ = some (.int .i64 e4) ∧ w'.cell? ⟨w9.heap.size, 0, none⟩ = some (.slice A n c) ∧ w'.cell? ⟨w9.heap.size, 1, none⟩ = some (.int .i64 x5) ∧ w'.cell? ⟨w9.heap.size, 2, none⟩ = some (.int .i64 e5) ∧ w'.cell? ⟨w10.heap.size, 0, none⟩ = some (.slice A n c) ∧ w'.cell? ⟨w10.heap.size, 1, none⟩ = some (.int .i64 x5) ∧ w'.cell? ⟨w10.heap.size, 2, none⟩ = some (.int .i64 e5)) → Below w.heap.size w w') := fun w' hs => hb10.trans (hs.1.mono hbz)
  clear BIG hb10 hbz X10 G1_10 G2_10 G3_10 G4_10 G5_10 G6_10 G7_10 G8_10 G9_10 G10_10 HP1 HQ1 HP2 HQ2 HP3 HQ3 HP4 HQ4 HP5 HQ5
  go_region_held3 (fun w' => (Below W0.heap.size W0 w' ∧ w'.cell? ⟨w.heap.size, 0, none⟩ = some (.slice A n c) ∧ w'.cell? ⟨w.heap.size, 1, none⟩ = some (.int .i64 x) ∧ w'.cell? ⟨w.heap.size, 2, none⟩ = some (.int .i64 err) ∧ w'.cell? ⟨w1.heap.size, 0, none⟩ = some (.slice A n c) ∧ w'.cell? ⟨w1.heap.size, 1, none⟩ = some (.int .i64 x1) ∧ w'.cell? ⟨w1.heap.size, 2, none⟩ = some (.int .i64 e1) ∧ w'.cell? ⟨w2.heap.size, 0, none⟩ = some (.slice A n c) ∧ w'.cell? ⟨w2.heap.size, 1, none⟩ = some (.int .i64 x1) ∧ w'.cell? ⟨w2.heap.size, 2, none⟩ = some (.int .i64 e1) ∧ w'.cell? ⟨w3.heap.size, 0, none⟩ = some (.slice A n c) ∧ w'.cell? ⟨w3.heap.size, 1, none⟩ = some (.int .i64 x2) ∧ w'.cell? ⟨w3.heap.size, 2, none⟩ = some (.int .i64 e2) ∧ w'.cell? ⟨w4.heap.size, 0, none⟩ = some (.slice A n c) ∧ w'.cell? ⟨w4.heap.size, 1, none⟩ = some (.int .i64 x2) ∧ w'.cell? ⟨w4.heap.size, 2, none⟩ = some (.int .i64 e2) ∧ w'.cell? ⟨w5.heap.size, 0, none⟩ = some (.slice A n c) ∧ w'.cell? ⟨w5.heap.size, 1, none⟩ = some (.int .i64 x3) ∧ w'.cell? ⟨w5.heap.size, 2, none⟩ = some (.int .i64 e3) ∧ w'.cell? ⟨w6.heap.size, 0, none⟩ = some (.slice A n c) ∧ w'.cell? ⟨w6.heap.size, 1, none⟩ = some (.int .i64 x3) ∧ w'.cell? ⟨w6.heap.size, 2, none⟩ = some (.int .i64 e3) ∧ w'.cell? ⟨w7.heap.size, 0, none⟩ = some (.slice A n c) ∧ w'.cell? ⟨w7.heap.size, 1, none⟩ = some (.int .i64 x4) ∧ w'.cell? ⟨w7.heap.size, 2, none⟩ = some (.int .i64 e4) ∧ w'.cell? ⟨w8.heap.size, 0, none⟩ = some (.slice A n c) ∧ w'.cell? ⟨w8.heap.size, 1, none⟩ = some (.int .i64 x4) ∧ w'.cell? ⟨w8.heap.size, 2, none⟩ = some (.int .i64 e4) ∧ w'.cell? ⟨w9.heap.size, 0, none⟩ = some (.slice A n c) ∧ w'.cell? ⟨w9.heap.size, 1, none⟩ = some (.int .i64 x5) ∧ w'.cell? ⟨w9.heap.size, 2, none⟩ = some (.int .i64 e5) ∧ w'.cell? ⟨w10.heap.size, 0, none⟩ = some (.slice A n c) ∧ w'.cell? ⟨w10.heap.size, 1, none⟩ = some (.int .i64 x5) ∧ w'.cell? ⟨w10.heap.size, 2, none⟩ = some (.int .i64 e5))) (first | exact START.out | exact STEP.out _ _ (by assumption) (by assumption))
    (first
      | (go_at_call 34; refine (reader_same _ w.heap.size A n c l _ _ ?_ ?_).mono ?_; (exact (RDOK.out _ (by assumption)).1); (exact (RDOK.out _ (by assumption)).2); rintro e wz ⟨rfl, hbb⟩)
      | (go_at_call 35; refine (end_any _ A n c x err).mono ?_; rintro e wz ⟨rfl, hbb⟩)
      | (go_at_call 36; refine (rend_any _ A n c x err).mono ?_; rintro e wz ⟨rfl, hbb⟩)
      | (go_at_call 8; refine (awake_any _).mono ?_; rintro e wz ⟨rfl, hbb⟩))
  go_wp2
  go_ret
  exact ⟨rfl, FIN.out _ (by assumption)⟩

set_option maxRecDepth 100000 in
set_option maxHeartbeats 800000 in
theorem takes_long (A : Option Addr) (n c : Nat) (x err most : Int) (w : World) (hn : ¬ (n : Int) ≤ 300) :
    Calls Try.prog 5 #[rv A n c x err, .int .i64 most] w fun e w' => e = .returned (.bool true) ∧ Below w.heap.size w w' := by
  go_enter Try.func5, Try.ntmps5
  go_wp2_with fail
  refine (awake_any _).mono ?_
  rintro e w0 ⟨rfl, hc⟩
  go_wp2_with fail
  go_ret
  exact ⟨rfl, ((Below.refl _ _).alloc (Nat.le_refl _) _).trans (hc.mono (by simp))⟩

end Go.Proofs.Ytacklmfplpgkdaa
