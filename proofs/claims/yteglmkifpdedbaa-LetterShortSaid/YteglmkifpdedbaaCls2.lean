/- The classes that IsName, IsWord, IsText and Words make; the contracts of inner, begins, fits. -/
import Derived.Test.YteglmkifpdedbaaCls
namespace Go.Proofs.Yteglmkifpdedbaa
open Go.RowKit

theorem hmf_ (fn : Fn) (first cap : Array Value) (w : World) : (Instr.makeFunc fn first cap).run Try.prog w = .ok (.func fn first cap) w := rfl

set_option maxRecDepth 100000 in
set_option maxHeartbeats 800000 in
theorem inner_any (w : World) (c : UInt8) : Calls Try.prog 36 #[.int .u8 (c.toNat : Int)] w fun e w' => e = .returned (.bool (isIn c)) ∧ w = w' := by
  by_cases a : (c.toNat : Int) = 45
  · have ha : ((c.toNat : Int) == 45) = true := by simpa using a
    have e : isIn c = true := by simp [isIn, a]
    rw [e]
    clear e a
    go_enter Try.func36, Try.ntmps36
    go_wp2_with fail
    go_ret
    exact ⟨rfl, rfl⟩
  · have ha : ((c.toNat : Int) == 45) = false := by simpa using a
    by_cases b : (c.toNat : Int) = 39
    · have hb : ((c.toNat : Int) == 39) = true := by simpa using b
      have e : isIn c = true := by simp [isIn, b]
      rw [e]
      clear e a b
      go_enter Try.func36, Try.ntmps36
      go_wp2_with fail
      go_ret
      exact ⟨rfl, rfl⟩
    · have hb : ((c.toNat : Int) == 39) = false := by simpa using b
      have e : isIn c = false := by simp [isIn, a, b]
      rw [e]
      clear e a b
      go_enter Try.func36, Try.ntmps36
      go_wp2_with fail
      go_ret
      exact ⟨rfl, rfl⟩

set_option maxRecDepth 100000 in
set_option maxHeartbeats 800000 in
theorem words2_any (w : World) (c : UInt8) : Calls Try.prog 40 #[.int .u8 (c.toNat : Int)] w fun e w' => e = .returned (.bool (isMk c)) ∧ w = w' := by
  by_cases a : (c.toNat : Int) = 46
  · have ha : ((c.toNat : Int) == 46) = true := by simpa using a
    have e : isMk c = true := by simp [isMk, a]
    rw [e]
    clear e a
    go_enter Try.func40, Try.ntmps40
    go_wp2_with fail
    go_ret
    exact ⟨rfl, rfl⟩
  · have ha : ((c.toNat : Int) == 46) = false := by simpa using a
    by_cases b : (c.toNat : Int) = 44
    · have hb : ((c.toNat : Int) == 44) = true := by simpa using b
      have e : isMk c = true := by simp [isMk, b]
      rw [e]
      clear e a b
      go_enter Try.func40, Try.ntmps40
      go_wp2_with fail
      go_ret
      exact ⟨rfl, rfl⟩
    · have hb : ((c.toNat : Int) == 44) = false := by simpa using b
      have e : isMk c = false := by simp [isMk, a, b]
      rw [e]
      clear e a b
      go_enter Try.func40, Try.ntmps40
      go_wp2_with fail
      go_ret
      exact ⟨rfl, rfl⟩

/-- a variable that holds a class -/
def Holds (w : World) (B g k : Nat) (cs : Array Value) (p : UInt8 → Bool) : Prop :=
  w.cell? ⟨g, 0, none⟩ = some (.func (.func k) #[] cs) ∧ g < B ∧ Cls w B k cs p

theorem Holds.below {w w1 : World} {B g k : Nat} {cs : Array Value} {p : UInt8 → Bool} (h : Holds w B g k cs p) (hb : Below B w w1) : Holds w1 B g k cs p :=
  ⟨(hb.cell (p := ⟨g, 0, none⟩) h.2.1).trans h.1, h.2.1, h.2.2.below hb⟩

theorem Holds.more {w : World} {B B' g k : Nat} {cs : Array Value} {p : UInt8 → Bool} (h : Holds w B g k cs p) (hB : B ≤ B') : Holds w B' g k cs p :=
  ⟨h.1, Nat.lt_of_lt_of_le h.2.1 hB, h.2.2.more hB⟩

set_option maxRecDepth 100000 in
set_option maxHeartbeats 800000 in
/-- small(c) || digit(c), as IsWord makes it -/
theorem word1_any (w : World) (B g1 g2 k1 k2 : Nat) (c1 c2 : Array Value) (p1 p2 : UInt8 → Bool) (h1 : Holds w B g1 k1 c1 p1) (h2 : Holds w B g2 k2 c2 p2) (hB : B ≤ w.heap.size) (c : UInt8) :
    Calls Try.prog 34 #[.int .u8 (c.toNat : Int), .pointer (some ⟨g1, 0, none⟩), .pointer (some ⟨g2, 0, none⟩)] w fun e w' => e = .returned (.bool (p1 c || p2 c)) ∧ Below w.heap.size w w' := by
  have e1 := h1.2.2.1.run
  have e2 := h2.2.2.1.run
  have q1 := h1.1
  have H1 := Lib.hid h1
  have H2 := Lib.hid h2
  clear h1 h2
  by_cases a : p1 c = true
  · go_enter Try.func34, Try.ntmps34
    go_wp2_with fail
    refine (H1.out.2.2.2 _ (Below.refl _ _) c).mono ?_
    rintro e w1 ⟨rfl, hb1⟩
    go_wp2_with fail
    go_ret
    exact ⟨by rw [a]; rfl, hb1⟩
  · rw [Bool.not_eq_true] at a
    go_enter Try.func34, Try.ntmps34
    go_wp2_with fail
    refine (H1.out.2.2.2 _ (Below.refl _ _) c).mono ?_
    rintro e w1 ⟨rfl, hb1⟩
    have q2 := (H2.out.below (hb1.mono hB)).1
    go_wp2_with fail
    refine (H2.out.2.2.2 _ (hb1.mono hB) c).mono ?_
    rintro e w2 ⟨rfl, hb2⟩
    go_wp2_with fail
    go_ret
    exact ⟨by rw [a]; rfl, hb1.trans (hb2.mono hb1.size)⟩

set_option maxRecDepth 100000 in
set_option maxHeartbeats 800000 in
/-- first(c) || inner(c), as IsWord makes it -/
theorem word2_any (w : World) (B g1 k1 : Nat) (c1 : Array Value) (p1 : UInt8 → Bool) (h1 : Holds w B g1 k1 c1 p1) (c : UInt8) :
    Calls Try.prog 35 #[.int .u8 (c.toNat : Int), .pointer (some ⟨g1, 0, none⟩)] w fun e w' => e = .returned (.bool (p1 c || isIn c)) ∧ Below w.heap.size w w' := by
  have e1 := h1.2.2.1.run
  have q1 := h1.1
  have H1 := Lib.hid h1
  clear h1
  by_cases a : p1 c = true
  · go_enter Try.func35, Try.ntmps35
    go_wp2_with fail
    refine (H1.out.2.2.2 _ (Below.refl _ _) c).mono ?_
    rintro e w1 ⟨rfl, hb1⟩
    go_wp2_with fail
    go_ret
    exact ⟨by rw [a]; rfl, hb1⟩
  · rw [Bool.not_eq_true] at a
    go_enter Try.func35, Try.ntmps35
    go_wp2_with fail
    refine (H1.out.2.2.2 _ (Below.refl _ _) c).mono ?_
    rintro e w1 ⟨rfl, hb1⟩
    go_wp2_with fail
    refine (inner_any _ c).mono ?_
    rintro e w2 ⟨rfl, rfl⟩
    go_wp2_with fail
    go_ret
    exact ⟨by rw [a]; rfl, hb1⟩

set_option maxRecDepth 100000 in
set_option maxHeartbeats 800000 in
/-- printable(c) || c == line feed, as IsText makes it -/
theorem text1_any (w : World) (B g1 k1 : Nat) (c1 : Array Value) (p1 : UInt8 → Bool) (h1 : Holds w B g1 k1 c1 p1) (c : UInt8) :
    Calls Try.prog 38 #[.int .u8 (c.toNat : Int), .pointer (some ⟨g1, 0, none⟩)] w fun e w' => e = .returned (.bool (p1 c || decide ((c.toNat : Int) = 10))) ∧ Below w.heap.size w w' := by
  have e1 := h1.2.2.1.run
  have q1 := h1.1
  have H1 := Lib.hid h1
  clear h1
  by_cases a : p1 c = true
  · go_enter Try.func38, Try.ntmps38
    go_wp2_with fail
    refine (H1.out.2.2.2 _ (Below.refl _ _) c).mono ?_
    rintro e w1 ⟨rfl, hb1⟩
    go_wp2_with fail
    go_ret
    exact ⟨by rw [a]; rfl, hb1⟩
  · rw [Bool.not_eq_true] at a
    obtain ⟨d, hd⟩ : ∃ d, d = decide ((c.toNat : Int) = 10) := ⟨_, rfl⟩
    rw [← hd]
    have hq : ((c.toNat : Int) == 10) = d := by rw [hd]; rfl
    clear hd
    go_enter Try.func38, Try.ntmps38
    go_wp2_with fail
    refine (H1.out.2.2.2 _ (Below.refl _ _) c).mono ?_
    rintro e w1 ⟨rfl, hb1⟩
    go_wp2_with fail
    go_ret
    exact ⟨by rw [a]; rfl, hb1⟩

set_option maxRecDepth 100000 in
set_option maxHeartbeats 800000 in
/-- small(c) || digit(c) || c == '_', as IsName makes it -/
theorem name1_any (w : World) (B g1 g2 k1 k2 : Nat) (c1 c2 : Array Value) (p1 p2 : UInt8 → Bool) (h1 : Holds w B g1 k1 c1 p1) (h2 : Holds w B g2 k2 c2 p2) (hB : B ≤ w.heap.size) (c : UInt8) :
    Calls Try.prog 30 #[.int .u8 (c.toNat : Int), .pointer (some ⟨g1, 0, none⟩), .pointer (some ⟨g2, 0, none⟩)] w fun e w' => e = .returned (.bool (p1 c || p2 c || decide ((c.toNat : Int) = 95))) ∧ Below w.heap.size w w' := by
  have e1 := h1.2.2.1.run
  have e2 := h2.2.2.1.run
  have q1 := h1.1
  have H1 := Lib.hid h1
  have H2 := Lib.hid h2
  clear h1 h2
  by_cases a : p1 c = true
  · go_enter Try.func30, Try.ntmps30
    go_wp2_with fail
    refine (H1.out.2.2.2 _ (Below.refl _ _) c).mono ?_
    rintro e w1 ⟨rfl, hb1⟩
    go_wp2_with fail
    go_ret
    exact ⟨by rw [a]; rfl, hb1⟩
  · rw [Bool.not_eq_true] at a
    obtain ⟨d, hd⟩ : ∃ d, d = decide ((c.toNat : Int) = 95) := ⟨_, rfl⟩
    rw [← hd]
    have hq : ((c.toNat : Int) == 95) = d := by rw [hd]; rfl
    clear hd
    by_cases a2 : p2 c = true
    · go_enter Try.func30, Try.ntmps30
      go_wp2_with fail
      refine (H1.out.2.2.2 _ (Below.refl _ _) c).mono ?_
      rintro e w1 ⟨rfl, hb1⟩
      have q2 := (H2.out.below (hb1.mono hB)).1
      go_wp2_with fail
      refine (H2.out.2.2.2 _ (hb1.mono hB) c).mono ?_
      rintro e w2 ⟨rfl, hb2⟩
      go_wp2_with fail
      go_ret
      exact ⟨by rw [a, a2]; rfl, hb1.trans (hb2.mono hb1.size)⟩
    · rw [Bool.not_eq_true] at a2
      go_enter Try.func30, Try.ntmps30
      go_wp2_with fail
      refine (H1.out.2.2.2 _ (Below.refl _ _) c).mono ?_
      rintro e w1 ⟨rfl, hb1⟩
      have q2 := (H2.out.below (hb1.mono hB)).1
      go_wp2_with fail
      refine (H2.out.2.2.2 _ (hb1.mono hB) c).mono ?_
      rintro e w2 ⟨rfl, hb2⟩
      go_wp2_with fail
      go_ret
      exact ⟨by rw [a, a2]; rfl, hb1.trans (hb2.mono hb1.size)⟩

set_option maxRecDepth 100000 in
set_option maxHeartbeats 1600000 in
/-- small(c) || capital(c) || digit(c) || inner(c), as Words makes it -/
theorem words1_any (w : World) (B g1 g2 g3 k1 k2 k3 : Nat) (c1 c2 c3 : Array Value) (p1 p2 p3 : UInt8 → Bool) (h1 : Holds w B g1 k1 c1 p1) (h2 : Holds w B g2 k2 c2 p2) (h3 : Holds w B g3 k3 c3 p3) (hB : B ≤ w.heap.size) (c : UInt8) :
    Calls Try.prog 39 #[.int .u8 (c.toNat : Int), .pointer (some ⟨g1, 0, none⟩), .pointer (some ⟨g2, 0, none⟩), .pointer (some ⟨g3, 0, none⟩)] w fun e w' => e = .returned (.bool (p1 c || p2 c || p3 c || isIn c)) ∧ Below w.heap.size w w' := by
  have e1 := h1.2.2.1.run
  have e2 := h2.2.2.1.run
  have e3 := h3.2.2.1.run
  have q1 := h1.1
  have H1 := Lib.hid h1
  have H2 := Lib.hid h2
  have H3 := Lib.hid h3
  clear h1 h2 h3
  by_cases a : p1 c = true
  · go_enter Try.func39, Try.ntmps39
    go_wp2_with fail
    refine (H1.out.2.2.2 _ (Below.refl _ _) c).mono ?_
    rintro e w1 ⟨rfl, hb1⟩
    go_wp2_with fail
    go_ret
    exact ⟨by rw [a]; rfl, hb1⟩
  · rw [Bool.not_eq_true] at a
    by_cases a2 : p2 c = true
    · go_enter Try.func39, Try.ntmps39
      go_wp2_with fail
      refine (H1.out.2.2.2 _ (Below.refl _ _) c).mono ?_
      rintro e w1 ⟨rfl, hb1⟩
      have q2 := (H2.out.below (hb1.mono hB)).1
      go_wp2_with fail
      refine (H2.out.2.2.2 _ (hb1.mono hB) c).mono ?_
      rintro e w2 ⟨rfl, hb2⟩
      go_wp2_with fail
      go_ret
      exact ⟨by rw [a, a2]; rfl, hb1.trans (hb2.mono hb1.size)⟩
    · rw [Bool.not_eq_true] at a2
      by_cases a3 : p3 c = true
      · go_enter Try.func39, Try.ntmps39
        go_wp2_with fail
        refine (H1.out.2.2.2 _ (Below.refl _ _) c).mono ?_
        rintro e w1 ⟨rfl, hb1⟩
        have q2 := (H2.out.below (hb1.mono hB)).1
        go_wp2_with fail
        refine (H2.out.2.2.2 _ (hb1.mono hB) c).mono ?_
        rintro e w2 ⟨rfl, hb2⟩
        have hb12 := hb1.trans (hb2.mono hb1.size)
        clear hb1 hb2
        have q3 := (H3.out.below (hb12.mono hB)).1
        go_wp2_with fail
        refine (H3.out.2.2.2 _ (hb12.mono hB) c).mono ?_
        rintro e w3 ⟨rfl, hb3⟩
        go_wp2_with fail
        go_ret
        exact ⟨by rw [a, a2, a3]; rfl, hb12.trans (hb3.mono hb12.size)⟩
      · rw [Bool.not_eq_true] at a3
        go_enter Try.func39, Try.ntmps39
        go_wp2_with fail
        refine (H1.out.2.2.2 _ (Below.refl _ _) c).mono ?_
        rintro e w1 ⟨rfl, hb1⟩
        have q2 := (H2.out.below (hb1.mono hB)).1
        go_wp2_with fail
        refine (H2.out.2.2.2 _ (hb1.mono hB) c).mono ?_
        rintro e w2 ⟨rfl, hb2⟩
        have hb12 := hb1.trans (hb2.mono hb1.size)
        clear hb1 hb2
        have q3 := (H3.out.below (hb12.mono hB)).1
        go_wp2_with fail
        refine (H3.out.2.2.2 _ (hb12.mono hB) c).mono ?_
        rintro e w3 ⟨rfl, hb3⟩
        have hb13 := hb12.trans (hb3.mono hb12.size)
        clear hb12 hb3
        go_wp2_with fail
        refine (inner_any _ c).mono ?_
        rintro e w4 ⟨rfl, rfl⟩
        go_wp2_with fail
        go_ret
        exact ⟨by rw [a, a2, a3]; rfl, hb13⟩

/-- the classes as function values -/
theorem cls_word1 {w : World} {B g1 g2 k1 k2 : Nat} {c1 c2 : Array Value} {p1 p2 : UInt8 → Bool} (h1 : Holds w B g1 k1 c1 p1) (h2 : Holds w B g2 k2 c2 p2) (hB : B ≤ w.heap.size) :
    Cls w B 34 #[.pointer (some ⟨g1, 0, none⟩), .pointer (some ⟨g2, 0, none⟩)] (fun c => p1 c || p2 c) :=
  ⟨⟨_, Try.func34, by kernel_rfl, by kernel_rfl⟩, fun w' hb c => word1_any w' B g1 g2 k1 k2 c1 c2 p1 p2 (h1.below hb) (h2.below hb) (Nat.le_trans hB hb.size) c⟩

theorem cls_word2 {w : World} {B g1 k1 : Nat} {c1 : Array Value} {p1 : UInt8 → Bool} (h1 : Holds w B g1 k1 c1 p1) :
    Cls w B 35 #[.pointer (some ⟨g1, 0, none⟩)] (fun c => p1 c || isIn c) :=
  ⟨⟨_, Try.func35, by kernel_rfl, by kernel_rfl⟩, fun w' hb c => word2_any w' B g1 k1 c1 p1 (h1.below hb) c⟩

theorem cls_text1 {w : World} {B g1 k1 : Nat} {c1 : Array Value} {p1 : UInt8 → Bool} (h1 : Holds w B g1 k1 c1 p1) :
    Cls w B 38 #[.pointer (some ⟨g1, 0, none⟩)] (fun c => p1 c || decide ((c.toNat : Int) = 10)) :=
  ⟨⟨_, Try.func38, by kernel_rfl, by kernel_rfl⟩, fun w' hb c => text1_any w' B g1 k1 c1 p1 (h1.below hb) c⟩

theorem cls_name1 {w : World} {B g1 g2 k1 k2 : Nat} {c1 c2 : Array Value} {p1 p2 : UInt8 → Bool} (h1 : Holds w B g1 k1 c1 p1) (h2 : Holds w B g2 k2 c2 p2) (hB : B ≤ w.heap.size) :
    Cls w B 30 #[.pointer (some ⟨g1, 0, none⟩), .pointer (some ⟨g2, 0, none⟩)] (fun c => p1 c || p2 c || decide ((c.toNat : Int) = 95)) :=
  ⟨⟨_, Try.func30, by kernel_rfl, by kernel_rfl⟩, fun w' hb c => name1_any w' B g1 g2 k1 k2 c1 c2 p1 p2 (h1.below hb) (h2.below hb) (Nat.le_trans hB hb.size) c⟩

theorem cls_words1 {w : World} {B g1 g2 g3 k1 k2 k3 : Nat} {c1 c2 c3 : Array Value} {p1 p2 p3 : UInt8 → Bool} (h1 : Holds w B g1 k1 c1 p1) (h2 : Holds w B g2 k2 c2 p2) (h3 : Holds w B g3 k3 c3 p3) (hB : B ≤ w.heap.size) :
    Cls w B 39 #[.pointer (some ⟨g1, 0, none⟩), .pointer (some ⟨g2, 0, none⟩), .pointer (some ⟨g3, 0, none⟩)] (fun c => p1 c || p2 c || p3 c || isIn c) :=
  ⟨⟨_, Try.func39, by kernel_rfl, by kernel_rfl⟩, fun w' hb c => words1_any w' B g1 g2 g3 k1 k2 k3 c1 c2 c3 p1 p2 p3 (h1.below hb) (h2.below hb) (h3.below hb) (Nat.le_trans hB hb.size) c⟩

theorem cls_words2 (w : World) (B : Nat) : Cls w B 40 #[] isMk :=
  ⟨⟨_, Try.func40, by kernel_rfl, by kernel_rfl⟩, fun w' _ c => (words2_any w' c).mono fun e w2 ⟨he, hw⟩ => ⟨he, by subst hw; exact Below.refl _ _⟩⟩

end Go.Proofs.Yteglmkifpdedbaa
