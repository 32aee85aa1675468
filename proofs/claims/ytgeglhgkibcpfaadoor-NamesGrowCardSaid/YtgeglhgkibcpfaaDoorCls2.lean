/- The classes that IsName, IsWord, IsText and Words make; the contracts of inner, begins, fits. -/
import Derived.Test.YtgeglhgkibcpfaaDoorCls
namespace Go.Proofs.YtgeglhgkibcpfaaDoor
open Go.RowKit

theorem hmf_ (fn : Fn) (first cap : Array Value) (w : World) : (Instr.makeFunc fn first cap).run Tryd.prog w = .ok (.func fn first cap) w := rfl

/-- a variable that holds a class -/
def Holds (w : World) (B g k : Nat) (cs : Array Value) (p : UInt8 → Bool) : Prop :=
  w.cell? ⟨g, 0, none⟩ = some (.func (.func k) #[] cs) ∧ g < B ∧ Cls w B k cs p

theorem Holds.below {w w1 : World} {B g k : Nat} {cs : Array Value} {p : UInt8 → Bool} (h : Holds w B g k cs p) (hb : Below B w w1) : Holds w1 B g k cs p :=
  ⟨(hb.cell (p := ⟨g, 0, none⟩) h.2.1).trans h.1, h.2.1, h.2.2.below hb⟩

theorem Holds.more {w : World} {B B' g k : Nat} {cs : Array Value} {p : UInt8 → Bool} (h : Holds w B g k cs p) (hB : B ≤ B') : Holds w B' g k cs p :=
  ⟨h.1, Nat.lt_of_lt_of_le h.2.1 hB, h.2.2.more hB⟩

set_option maxRecDepth 100000 in
set_option maxHeartbeats 800000 in
/-- small(c) || digit(c) || c == '_', as IsName makes it -/
theorem name1_any (w : World) (B g1 g2 k1 k2 : Nat) (c1 c2 : Array Value) (p1 p2 : UInt8 → Bool) (h1 : Holds w B g1 k1 c1 p1) (h2 : Holds w B g2 k2 c2 p2) (hB : B ≤ w.heap.size) (c : UInt8) :
    Calls Tryd.prog 38 #[.int .u8 (c.toNat : Int), .pointer (some ⟨g1, 0, none⟩), .pointer (some ⟨g2, 0, none⟩)] w fun e w' => e = .returned (.bool (p1 c || p2 c || decide ((c.toNat : Int) = 95))) ∧ Below w.heap.size w w' := by
  have e1 := h1.2.2.1.run
  have e2 := h2.2.2.1.run
  have q1 := h1.1
  have H1 := Lib.hid h1
  have H2 := Lib.hid h2
  clear h1 h2
  by_cases a : p1 c = true
  · go_enter Tryd.func38, Tryd.ntmps38
    go_wp2_with fail
    refine (H1.out.2.2.2 _ (Below.refl _ _) c).mono ?_
    rintro e w1 ⟨rfl, hb1⟩
    go_wp2_with fail
    go_ret
    exact ⟨by rw [a]; rfl, hb1⟩
  · rw [Bool.not_eq_true] at a
    obtain ⟨d, hd⟩ : ∃ d, d = decide ((c.toNat : Int) = 95) := ⟨_, rfl⟩
    rw [← hd]
    have hq : ((c.toNat : Int) == 95) = d := by rw [hd]; rfl
    clear hd
    by_cases a2 : p2 c = true
    · go_enter Tryd.func38, Tryd.ntmps38
      go_wp2_with fail
      refine (H1.out.2.2.2 _ (Below.refl _ _) c).mono ?_
      rintro e w1 ⟨rfl, hb1⟩
      have q2 := (H2.out.below (hb1.mono hB)).1
      go_wp2_with fail
      refine (H2.out.2.2.2 _ (hb1.mono hB) c).mono ?_
      rintro e w2 ⟨rfl, hb2⟩
      go_wp2_with fail
      go_ret
      exact ⟨by rw [a, a2]; rfl, hb1.trans (hb2.mono hb1.size)⟩
    · rw [Bool.not_eq_true] at a2
      go_enter Tryd.func38, Tryd.ntmps38
      go_wp2_with fail
      refine (H1.out.2.2.2 _ (Below.refl _ _) c).mono ?_
      rintro e w1 ⟨rfl, hb1⟩
      have q2 := (H2.out.below (hb1.mono hB)).1
      go_wp2_with fail
      refine (H2.out.2.2.2 _ (hb1.mono hB) c).mono ?_
      rintro e w2 ⟨rfl, hb2⟩
      go_wp2_with fail
      go_ret
      exact ⟨by rw [a, a2]; rfl, hb1.trans (hb2.mono hb1.size)⟩

theorem cls_name1 {w : World} {B g1 g2 k1 k2 : Nat} {c1 c2 : Array Value} {p1 p2 : UInt8 → Bool} (h1 : Holds w B g1 k1 c1 p1) (h2 : Holds w B g2 k2 c2 p2) (hB : B ≤ w.heap.size) :
    Cls w B 38 #[.pointer (some ⟨g1, 0, none⟩), .pointer (some ⟨g2, 0, none⟩)] (fun c => p1 c || p2 c || decide ((c.toNat : Int) = 95)) :=
  ⟨⟨_, Tryd.func38, by kernel_rfl, by kernel_rfl⟩, fun w' hb c => name1_any w' B g1 g2 k1 k2 c1 c2 p1 p2 (h1.below hb) (h2.below hb) (Nat.le_trans hB hb.size) c⟩

end Go.Proofs.YtgeglhgkibcpfaaDoor
