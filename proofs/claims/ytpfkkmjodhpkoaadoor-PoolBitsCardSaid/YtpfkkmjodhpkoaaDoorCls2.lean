/- The classes that IsName, IsWord, IsText and Words make; the contracts of inner, begins, fits. -/
import Derived.Test.YtpfkkmjodhpkoaaDoorCls
namespace Go.Proofs.YtpfkkmjodhpkoaaDoor
open Go.RowKit

theorem hmf_ (fn : Fn) (first cap : Array Value) (w : World) : (Instr.makeFunc fn first cap).run Tryd.prog w = .ok (.func fn first cap) w := rfl

/-- a variable that holds a class -/
def Holds (w : World) (B g k : Nat) (cs : Array Value) (p : UInt8 → Bool) : Prop :=
  w.cell? ⟨g, 0, none⟩ = some (.func (.func k) #[] cs) ∧ g < B ∧ Cls w B k cs p

theorem Holds.below {w w1 : World} {B g k : Nat} {cs : Array Value} {p : UInt8 → Bool} (h : Holds w B g k cs p) (hb : Below B w w1) : Holds w1 B g k cs p :=
  ⟨(hb.cell (p := ⟨g, 0, none⟩) h.2.1).trans h.1, h.2.1, h.2.2.below hb⟩

theorem Holds.more {w : World} {B B' g k : Nat} {cs : Array Value} {p : UInt8 → Bool} (h : Holds w B g k cs p) (hB : B ≤ B') : Holds w B' g k cs p :=
  ⟨h.1, Nat.lt_of_lt_of_le h.2.1 hB, h.2.2.more hB⟩

set_option maxRecDepth 100000 in
set_option maxHeartbeats 800000 in
/-- printable(c) || c == line feed, as IsText makes it -/
theorem text1_any (w : World) (B g1 k1 : Nat) (c1 : Array Value) (p1 : UInt8 → Bool) (h1 : Holds w B g1 k1 c1 p1) (c : UInt8) :
    Calls Tryd.prog 62 #[.int .u8 (c.toNat : Int), .pointer (some ⟨g1, 0, none⟩)] w fun e w' => e = .returned (.bool (p1 c || decide ((c.toNat : Int) = 10))) ∧ Below w.heap.size w w' := by
  have e1 := h1.2.2.1.run
  have q1 := h1.1
  have H1 := Lib.hid h1
  clear h1
  by_cases a : p1 c = true
  · go_enter Tryd.func62, Tryd.ntmps62
    go_wp2_with fail
    refine (H1.out.2.2.2 _ (Below.refl _ _) c).mono ?_
    rintro e w1 ⟨rfl, hb1⟩
    go_wp2_with fail
    go_ret
    exact ⟨by rw [a]; rfl, hb1⟩
  · rw [Bool.not_eq_true] at a
    obtain ⟨d, hd⟩ : ∃ d, d = decide ((c.toNat : Int) = 10) := ⟨_, rfl⟩
    rw [← hd]
    have hq : ((c.toNat : Int) == 10) = d := by rw [hd]; rfl
    clear hd
    go_enter Tryd.func62, Tryd.ntmps62
    go_wp2_with fail
    refine (H1.out.2.2.2 _ (Below.refl _ _) c).mono ?_
    rintro e w1 ⟨rfl, hb1⟩
    go_wp2_with fail
    go_ret
    exact ⟨by rw [a]; rfl, hb1⟩

theorem cls_text1 {w : World} {B g1 k1 : Nat} {c1 : Array Value} {p1 : UInt8 → Bool} (h1 : Holds w B g1 k1 c1 p1) :
    Cls w B 62 #[.pointer (some ⟨g1, 0, none⟩)] (fun c => p1 c || decide ((c.toNat : Int) = 10)) :=
  ⟨⟨_, Tryd.func62, by kernel_rfl, by kernel_rfl⟩, fun w' hb c => text1_any w' B g1 k1 c1 p1 (h1.below hb) c⟩

end Go.Proofs.YtpfkkmjodhpkoaaDoor
