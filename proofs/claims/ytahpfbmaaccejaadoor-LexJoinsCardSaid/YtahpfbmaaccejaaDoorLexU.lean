/- Contracts of the closures of the program's All: the column of a place; what skips the gap between tokens. -/
import Derived.Test.YtahpfbmaaccejaaDoorLexT
namespace Go.Proofs.YtahpfbmaaccejaaDoor
open Go.RowKit

set_option maxRecDepth 100000 in
set_option maxHeartbeats 1600000 in
theorem col_any (w : World) (g p ls : Nat) (h : w.cell? ⟨g, 0, none⟩ = some (.int .i64 (ls : Int))) (hle : ls ≤ p) (hp : (p : Int) ≤ 100000) :
    Calls Tryd.prog 20 #[.int .i64 p, .pointer (some ⟨g, 0, none⟩)] w fun e w' => e = .returned (.int .i64 ((p - ls + 1 : Nat) : Int)) ∧ w = w' := by
  have w1 : IntKind.i64.wrap ((p : Int) - (ls : Int)) = (p : Int) - (ls : Int) := by rw [IntKind.wrap_i64]; omega
  have w2 : IntKind.i64.wrap ((p : Int) - (ls : Int) + 1) = (p : Int) - (ls : Int) + 1 := by rw [IntKind.wrap_i64]; omega
  have HE : Hid ((p : Int) - (ls : Int) + 1 = ((p - ls + 1 : Nat) : Int)) := Lib.hid (by omega)
  go_enter Tryd.func20, Tryd.ntmps20
  go_wp2_with fail
  go_ret
  exact ⟨ret_int HE.out, rfl⟩

/-- the variables that All's closures share: the source, where it stands, its line, where that begins -/
def St (w : World) (h : Nat) (s : ByteArray) (k ln ls : Nat) : Prop :=
  Blk w h 9 #[.string s] ∧ Blk w (h + 2) 3 #[.int .i64 (k : Int)] ∧ Blk w (h + 3) 3 #[.int .i64 (ln : Int)] ∧ Blk w (h + 4) 3 #[.int .i64 (ls : Int)] ∧
  ls ≤ k ∧ k ≤ s.size ∧ posL (s.data.toList.take k) = (ln, k - ls + 1)

/-- all but these variables is as it was -/
structure Kept (h : Nat) (w w' : World) : Prop where
  os : w'.os = w.os
  tape : w'.tape = w.tape
  output : w'.output = w.output
  size : w'.heap.size = w.heap.size
  block : ∀ b, b < h + 2 ∨ h + 5 ≤ b → w'.heap[b]? = w.heap[b]?

theorem Kept.refl (h : Nat) (w : World) : Kept h w w := ⟨rfl, rfl, rfl, rfl, fun _ _ => rfl⟩
theorem Kept.trans {h : Nat} {a b c : World} (x : Kept h a b) (y : Kept h b c) : Kept h a c := ⟨y.os.trans x.os, y.tape.trans x.tape, y.output.trans x.output, y.size.trans x.size, fun k hk => (y.block k hk).trans (x.block k hk)⟩
theorem Kept.drewN {h : Nat} {a b : World} (x : Kept h a b) (n : Nat) : Kept h a (b.drewN n) := ⟨x.os, x.tape, x.output, x.size, x.block⟩
theorem Kept.set {h : Nat} {a b : World} (x : Kept h a b) (g : Nat) (v : Value) (hg : h + 2 ≤ g) (hg2 : g < h + 5) : Kept h a (b.setCell ⟨g, 0, none⟩ v) :=
  x.trans ⟨rfl, rfl, rfl, by simp [World.setCell], fun k hk => Below.heap_setCell _ _ _ _ (by show k ≠ g; omega)⟩
theorem Kept.below {h B : Nat} {a b : World} (x : Kept h a b) (hB : B ≤ h + 2) : Below B a b := ⟨x.os, x.tape, x.output, by rw [x.size]; exact Nat.le_refl _, fun k hk => x.block k (.inl (by omega))⟩
theorem Kept.own {h : Nat} {a b : World} (x : Kept h a b) {base : Nat} {e : TypeId} {size n : Nat} {v : Value} {xs : List Value} (hb : h + 5 ≤ base) (ho : a.ownsRow base e size v n xs) : b.ownsRow base e size v n xs := by
  obtain ⟨hl, h0 | ⟨g, cap, cur, hv, hg, hh, r⟩⟩ := ho
  · exact ⟨hl, .inl h0⟩
  · exact ⟨hl, .inr ⟨g, cap, cur, hv, hg, by rw [x.block g (.inr (by omega))]; exact hh, r⟩⟩

theorem St.drewN {w : World} {h : Nat} {s : ByteArray} {k ln ls : Nat} (x : St w h s k ln ls) (n : Nat) : St (w.drewN n) h s k ln ls := x
theorem St.below {w w' : World} {h : Nat} {s : ByteArray} {k ln ls : Nat} (x : St w h s k ln ls) {B : Nat} (hb : Below B w w') (hB : h + 5 ≤ B) : St w' h s k ln ls :=
  ⟨x.1.below hb (by omega), x.2.1.below hb (by omega), x.2.2.1.below hb (by omega), x.2.2.2.1.below hb (by omega), x.2.2.2.2⟩

/-- one byte on, no line feed -/
theorem St.on {w : World} {h : Nat} {s : ByteArray} {k ln ls : Nat} (x : St w h s k ln ls) (hk : k < s.size) (hc : ¬ (s[k].toNat : Int) = 10) : St (w.setCell ⟨h + 2, 0, none⟩ (.int .i64 ((k : Int) + 1))) h s (k + 1) ln ls := by
  obtain ⟨b0, b2, b3, b4, h1, h2, h3⟩ := x
  refine ⟨b0.far (by show h ≠ h + 2; omega) _, ?_, b3.far (by show h + 3 ≠ h + 2; omega) _, b4.far (by show h + 4 ≠ h + 2; omega) _, by omega, by omega, ?_⟩
  · have := b2.set_ 0 (.int .i64 ((k : Int) + 1))
    exact this
  · rw [take_at hk, posL_snoc, h3]
    have e : stepP (ln, k - ls + 1) s[k] = (ln, k - ls + 1 + 1) := if_neg hc
    rw [e, show k + 1 - ls + 1 = k - ls + 1 + 1 by omega]

/-- one byte on, a line feed -/
theorem St.feed {w : World} {h : Nat} {s : ByteArray} {k ln ls : Nat} (x : St w h s k ln ls) (hk : k < s.size) (hc : (s[k].toNat : Int) = 10) :
    St (((w.setCell ⟨h + 3, 0, none⟩ (.int .i64 ((ln : Int) + 1))).setCell ⟨h + 4, 0, none⟩ (.int .i64 ((k : Int) + 1))).setCell ⟨h + 2, 0, none⟩ (.int .i64 ((k : Int) + 1))) h s (k + 1) (ln + 1) (k + 1) := by
  obtain ⟨b0, b2, b3, b4, h1, h2, h3⟩ := x
  have f0 := (((b0.far (p := ⟨h + 3, 0, none⟩) (by show h ≠ h + 3; omega) (.int .i64 ((ln : Int) + 1))).far (p := ⟨h + 4, 0, none⟩) (by show h ≠ h + 4; omega) (.int .i64 ((k : Int) + 1))).far (p := ⟨h + 2, 0, none⟩) (by show h ≠ h + 2; omega) (.int .i64 ((k : Int) + 1)))
  have f2 := (((b2.far (p := ⟨h + 3, 0, none⟩) (by show h + 2 ≠ h + 3; omega) (.int .i64 ((ln : Int) + 1))).far (p := ⟨h + 4, 0, none⟩) (by show h + 2 ≠ h + 4; omega) (.int .i64 ((k : Int) + 1))).set_ 0 (.int .i64 ((k : Int) + 1)))
  have f3 := (((b3.set_ 0 (.int .i64 ((ln : Int) + 1))).far (p := ⟨h + 4, 0, none⟩) (by show h + 3 ≠ h + 4; omega) (.int .i64 ((k : Int) + 1))).far (p := ⟨h + 2, 0, none⟩) (by show h + 3 ≠ h + 2; omega) (.int .i64 ((k : Int) + 1)))
  have f4 := (((b4.far (p := ⟨h + 3, 0, none⟩) (by show h + 4 ≠ h + 3; omega) (.int .i64 ((ln : Int) + 1))).set_ 0 (.int .i64 ((k : Int) + 1))).far (p := ⟨h + 2, 0, none⟩) (by show h + 4 ≠ h + 2; omega) (.int .i64 ((k : Int) + 1)))
  refine ⟨f0, f2, f3, f4, Nat.le_refl _, by omega, ?_⟩
  rw [take_at hk, posL_snoc, h3]
  have e : stepP (ln, k - ls + 1) s[k] = (ln + 1, 1) := if_pos hc
  rw [e, show k + 1 - (k + 1) + 1 = 1 by omega]

/-- where the source stands -/
def atOf (w : World) (b : Nat) : Nat := match w.cell? ⟨b, 0, none⟩ with
  | some (.int _ i) => i.toNat
  | _ => 0
theorem atOf_eq {w : World} {b k : Nat} (h : w.cell? ⟨b, 0, none⟩ = some (.int .i64 (k : Int))) : atOf w b = k := by unfold atOf; rw [h]; rfl
theorem St.at {w : World} {h : Nat} {s : ByteArray} {k ln ls : Nat} (x : St w h s k ln ls) : atOf w (h + 2) = k := atOf_eq (x.2.1.cell 0)

/-- the gap, byte by byte -/
theorem gap_step {m m2 : Bool} {c : UInt8} {r : List UInt8} (h : mayB c = true) (h2 : ((r.head? == some 47 && decide ((c.toNat : Int) = 47)) || (m && decide ((c.toNat : Int) ≠ 10))) = m2) (hs : m2 = true ∨ (c.toNat : Int) = 32 ∨ (c.toNat : Int) = 10 ∨ (c.toNat : Int) = 9) : (gapF m (c :: r)).1 = (gapF m2 r).1 + 1 := by
  rw [gapF_on h h2 (by rintro ⟨a, b, d, e⟩; rcases hs with hs | hs | hs | hs; rw [a] at hs; cases hs; exact b hs; exact d hs; exact e hs)]

theorem gap_feed {m : Bool} {c : UInt8} {r : List UInt8} (h : (c.toNat : Int) = 10) : (gapF m (c :: r)).1 = (gapF false r).1 + 1 :=
  gap_step (by unfold mayB; simp; omega) (by rw [decide_eq_false (show ¬ (c.toNat : Int) = 47 by omega), decide_eq_false (show ¬ (c.toNat : Int) ≠ 10 by omega), Bool.and_false, Bool.and_false]; rfl) (.inr (.inr (.inl h)))
theorem gap_blank {m : Bool} {c : UInt8} {r : List UInt8} (h : (c.toNat : Int) = 32 ∨ (c.toNat : Int) = 9) : (gapF m (c :: r)).1 = (gapF m r).1 + 1 :=
  gap_step (by unfold mayB; simp; omega) (by rw [decide_eq_false (show ¬ (c.toNat : Int) = 47 by omega), decide_eq_true (show (c.toNat : Int) ≠ 10 by omega), Bool.and_false, Bool.and_true, Bool.false_or]) (by omega)
theorem gap_in {c : UInt8} {r : List UInt8} (h : prB c = true) : (gapF true (c :: r)).1 = (gapF true r).1 + 1 := by
  unfold prB at h
  simp at h
  exact gap_step (by unfold mayB; simp; omega) (by rw [decide_eq_true (show (c.toNat : Int) ≠ 10 by omega), Bool.true_and, Bool.or_true]) (.inl rfl)
/-- do two slashes begin here? -/
def slB (l : List UInt8) : Bool := [47, 47].isPrefixOf l
theorem slB_cons (c : UInt8) (r : List UInt8) : slB (c :: r) = (r.head? == some 47 && decide ((c.toNat : Int) = 47)) := by
  have e1 : slB (c :: r) = ((47 : UInt8) == c && [47].isPrefixOf r) := rfl
  have e2 : ((47 : UInt8) == c) = decide ((c.toNat : Int) = 47) := by
    by_cases h : (c.toNat : Int) = 47
    · have : c = 47 := UInt8.toNat_inj.mp (by have : (47 : UInt8).toNat = 47 := rfl; omega)
      rw [decide_eq_true h, this]
      rfl
    · rw [decide_eq_false h, beq_eq_false_iff_ne]
      rintro rfl
      exact h rfl
  rw [e1, e2, Bool.and_comm]
  congr 1
  cases r with
  | nil => rfl
  | cons d r =>
    show ((47 : UInt8) == d && [].isPrefixOf r) = (some d == some 47)
    have : ([] : List UInt8).isPrefixOf r = true := rfl
    rw [this, Bool.and_true]
    show ((47 : UInt8) == d) = (d == 47)
    exact BEq.comm
theorem gap_cmt {m : Bool} {c : UInt8} {r : List UInt8} (h : slB (c :: r) = true) : (gapF m (c :: r)).1 = (gapF true r).1 + 1 := by
  rw [slB_cons] at h
  have hc : (c.toNat : Int) = 47 := by
    rw [Bool.and_eq_true] at h
    exact of_decide_eq_true h.2
  exact gap_step (by unfold mayB; simp; omega) (by rw [h]; rfl) (.inl rfl)
theorem gap_stop {m : Bool} {c : UInt8} {r : List UInt8} (h10 : ¬ (c.toNat : Int) = 10) (h32 : ¬ (c.toNat : Int) = 32) (h9 : ¬ (c.toNat : Int) = 9) (hp : (m && prB c) = false) (hs : slB (c :: r) = false) : (gapF m (c :: r)).1 = 0 := by
  by_cases hm : mayB c = true
  · have hpr : prB c = true := by
      unfold mayB at hm
      unfold prB
      simp at hm ⊢
      omega
    rw [hpr, Bool.and_true] at hp
    rw [slB_cons] at hs
    rw [gapF_end hm (m2 := false) (by rw [hs, hp]; rfl) ⟨rfl, h32, h10, h9⟩]
  · rw [Bool.not_eq_true] at hm
    rw [gapF_no hm]

theorem pfx_any (W : World) (s : ByteArray) (k : Nat) (hk : k ≤ s.size) : Calls Tryd.prog 23 #[.string (s.extract k s.size), .string ⟨#[47, 47]⟩] W fun e w' => e = .returned (.bool (slB (s.data.toList.drop k))) ∧ W = w' := by
  have h := Any.strings_HasPrefix hpxLays (s.extract k s.size) ⟨#[47, 47]⟩ W
  have e : (s.extract k s.size).data.toList = s.data.toList.drop k := by
    have := ext_list s k (s.size - k)
    rw [Nat.add_sub_cancel' hk, List.take_of_length_le (by rw [List.length_drop, Array.length_toList]; exact Nat.le_refl _)] at this
    exact this
  refine h.mono fun e2 w2 ⟨h1, h2⟩ => ⟨?_, h2.symm⟩
  rw [h1, e]
  rfl

/-- what skip leaves -/
def SkOut (h : Nat) (s : ByteArray) (k : Nat) (w : World) (e : Ending) (w' : World) : Prop := e = .returned (.tuple #[]) ∧ Kept h w w' ∧ ∃ k2 ln2 ls2, k2 = k + (gapF false (s.data.toList.drop k)).1 ∧ St w' h s k2 ln2 ls2

set_option maxRecDepth 100000 in
set_option maxHeartbeats 12800000 in
theorem skip_any (w : World) (h : Nat) (s : ByteArray) (k ln ls : Nat) (hS : St w h s k ln ls) (hs : (s.size : Int) ≤ 60000) :
    Calls Tryd.prog 21 #[.pointer (some ⟨h + 2, 0, none⟩), .pointer (some ⟨h, 0, none⟩), .pointer (some ⟨h + 3, 0, none⟩), .pointer (some ⟨h + 4, 0, none⟩)] w (SkOut h s k w) := by
  obtain ⟨G, hG⟩ : ∃ G, G = k + (gapF false (s.data.toList.drop k)).1 := ⟨_, rfl⟩
  have HG0 : Hid (G = k + (gapF false (s.data.toList.drop k)).1) := Lib.hid hG
  have HS := Lib.hid hS
  unfold SkOut
  rw [← hG]
  clear hG hS
  go_enter Tryd.func21, Tryd.ntmps21
  go_wp2_with fail
  go_loopw [4] (fun vm wr => ∃ (m : Bool) (k ln ls : Nat), vm = .bool m ∧ Hid (Kept h w wr) ∧ Hid (St wr h s k ln ls) ∧ Hid (G = k + (gapF m (s.data.toList.drop k)).1)) (fun _ wr => s.size + 1 - atOf wr (h + 2))
  case atStart => exact ⟨false, k, ln, ls, rfl, Lib.hid (Kept.refl _ _), HS, HG0⟩
  case round =>
    clear HG0 HS
    obtain ⟨m, k, ln, ls, rfl, HKp, HS, HG⟩ := hrel
    obtain ⟨b0, b2, b3, b4, hls, hks, hpos⟩ := HS.out
    have c0 := b0.cell 0
    have c2 := b2.cell 0
    have c3 := b3.cell 0
    have c4 := b4.cell 0
    have z2 := b2.frozen 0
    have z3 := b3.frozen 0
    have z4 := b4.frozen 0
    change wr.cell? ⟨h, 0, none⟩ = some (.string s) at c0
    change wr.cell? ⟨h + 2, 0, none⟩ = some (.int .i64 (k : Int)) at c2
    change wr.cell? ⟨h + 3, 0, none⟩ = some (.int .i64 (ln : Int)) at c3
    change wr.cell? ⟨h + 4, 0, none⟩ = some (.int .i64 (ls : Int)) at c4
    have hlnb := posL_le (s.data.toList.take k)
    rw [hpos, List.length_take] at hlnb
    have hln9 : (ln : Int) ≤ 60002 := by simp only at hlnb; omega
    have HAT := Lib.hid HS.out.at
    clear b0 b2 b3 b4 hpos hlnb
    by_cases hlt : k < s.size
    · have HD := Lib.hid (drop_at hlt)
      have hcl := s[k].toNat_lt
      by_cases h10 : (s[k].toNat : Int) = 10
      · have t10 : ((s[k].toNat : Int) == 10) = true := by simpa using h10
        have HN : Hid (G = k + 1 + (gapF false (s.data.toList.drop (k + 1))).1) := Lib.hid (by rw [HG.out, HD.out, gap_feed h10]; omega)
        have HS2 := Lib.hid (HS.out.feed hlt h10)
        clear h10 HG
        have HK1 : Hid (Kept h w (((wr.setCell ⟨h + 3, 0, none⟩ (.int .i64 ((ln : Int) + 1))).setCell ⟨h + 4, 0, none⟩ (.int .i64 ((k : Int) + 1))).setCell ⟨h + 2, 0, none⟩ (.int .i64 ((k : Int) + 1))).drew) := Lib.hid ((((HKp.out.set (h + 3) _ (by omega) (by omega)).set (h + 4) _ (by omega) (by omega)).set (h + 2) _ (by omega) (by omega)).drewN 1)
        have HA1 : Hid (atOf (((wr.setCell ⟨h + 3, 0, none⟩ (.int .i64 ((ln : Int) + 1))).setCell ⟨h + 4, 0, none⟩ (.int .i64 ((k : Int) + 1))).setCell ⟨h + 2, 0, none⟩ (.int .i64 ((k : Int) + 1))).drew (h + 2) = k + 1) := Lib.hid (St.at (HS2.out.drewN 1))
        have cx2 : ((wr.setCell ⟨h + 3, 0, none⟩ (.int .i64 ((ln : Int) + 1))).setCell ⟨h + 4, 0, none⟩ (.int .i64 ((k : Int) + 1))).cell? ⟨h + 2, 0, none⟩ = some (.int .i64 (k : Int)) := by
          rw [World.cell?_setCell_other _ _ _ _ (by simp), World.cell?_setCell_other _ _ _ _ (by simp)]
          exact c2
        go_wp2_with fail
        go_region
        go_wp2_with fail
        go_roundw
        case rel => exact ⟨false, k + 1, ln + 1, k + 1, rfl, HK1, HS2, HN⟩
        case measure => rw [HA1.out, HAT.out]; omega
      · have t10 : ((s[k].toNat : Int) == 10) = false := by simpa using h10
        have HS2 := Lib.hid (HS.out.on hlt h10)
        have HK1 : Hid (Kept h w (wr.setCell ⟨h + 2, 0, none⟩ (.int .i64 ((k : Int) + 1)))) := Lib.hid (HKp.out.set (h + 2) _ (by omega) (by omega))
        have HA1 : Hid (atOf (wr.setCell ⟨h + 2, 0, none⟩ (.int .i64 ((k : Int) + 1))) (h + 2) = k + 1) := Lib.hid HS2.out.at
        by_cases h32 : (s[k].toNat : Int) = 32
        · have t32 : ((s[k].toNat : Int) == 32) = true := by simpa using h32
          clear h10
          have HN : Hid (G = k + 1 + (gapF m (s.data.toList.drop (k + 1))).1) := Lib.hid (by rw [HG.out, HD.out, gap_blank (.inl h32)]; omega)
          clear HG h32
          go_wp2_with fail
          go_roundw
          case rel => exact ⟨m, k + 1, ln, ls, rfl, HK1, HS2, HN⟩
          case measure => rw [HA1.out, HAT.out]; omega
        · have t32 : ((s[k].toNat : Int) == 32) = false := by simpa using h32
          by_cases h9 : (s[k].toNat : Int) = 9
          · have t9 : ((s[k].toNat : Int) == 9) = true := by simpa using h9
            clear h10
            have HN : Hid (G = k + 1 + (gapF m (s.data.toList.drop (k + 1))).1) := Lib.hid (by rw [HG.out, HD.out, gap_blank (.inr h9)]; omega)
            clear HG h32 h9
            go_wp2_with fail
            go_roundw
            case rel => exact ⟨m, k + 1, ln, ls, rfl, HK1, HS2, HN⟩
            case measure => rw [HA1.out, HAT.out]; omega
          · have t9 : ((s[k].toNat : Int) == 9) = false := by simpa using h9
            obtain ⟨p, hp⟩ : ∃ p, p = prB s[k] := ⟨_, rfl⟩
            have hpr : ∀ W, Calls Tryd.prog 22 #[.int .u8 (s[k].toNat : Int)] W fun e w' => e = .returned (.bool p) ∧ W = w' := fun W => by rw [hp]; exact pPrint_any W s[k]
            obtain ⟨q, hq⟩ : ∃ q, q = slB (s.data.toList.drop k) := ⟨_, rfl⟩
            have hpf : ∀ W, Calls Tryd.prog 23 #[.string (s.extract k s.size), .string ⟨#[47, 47]⟩] W fun e w' => e = .returned (.bool q) ∧ W = w' := fun W => by rw [hq]; exact pfx_any W s k hks
            have hps := hp.symm
            have hqs := hq.symm
            rw [HD.out] at hqs
            clear hp hq
            cases m with
            | true =>
              cases p with
              | true =>
                have HN : Hid (G = k + 1 + (gapF true (s.data.toList.drop (k + 1))).1) := Lib.hid (by rw [HG.out, HD.out, gap_in hps]; omega)
                clear HG
                go_wp2_with fail
                refine (hpr _).mono ?_
                rintro e w2 ⟨rfl, rfl⟩
                go_wp2_with fail
                go_roundw
                case rel => exact ⟨true, k + 1, ln, ls, rfl, HK1, HS2, HN⟩
                case measure => rw [HA1.out, HAT.out]; omega
              | false =>
                cases q with
                | true =>
                  have HN : Hid (G = k + 1 + (gapF true (s.data.toList.drop (k + 1))).1) := Lib.hid (by rw [HG.out, HD.out, gap_cmt hqs]; omega)
                  clear HG
                  go_wp2_with fail
                  refine (hpr _).mono ?_
                  rintro e w2 ⟨rfl, rfl⟩
                  go_wp2_with fail
                  refine (hpf _).mono ?_
                  rintro e w2 ⟨rfl, rfl⟩
                  go_wp2_with fail

                  go_roundw
                  case rel => exact ⟨true, k + 1, ln, ls, rfl, HK1, HS2, HN⟩
                  case measure => rw [HA1.out, HAT.out]; omega
                | false =>
                  have HE : Hid (G = k) := Lib.hid (by rw [HG.out, HD.out, gap_stop h10 h32 h9 (by rw [hps]; rfl) hqs]; rfl)
                  clear HG
                  go_wp2_with fail
                  refine (hpr _).mono ?_
                  rintro e w2 ⟨rfl, rfl⟩
                  go_wp2_with fail
                  refine (hpf _).mono ?_
                  rintro e w2 ⟨rfl, rfl⟩
                  go_wp2_with fail
                  (try simp only [Exit.inBlock, Exit.then])
                  refine bodyPost_ret (results_none rfl _ _ _) rfl ?_
                  exact ⟨rfl, HKp.out, k, ln, ls, HE.out.symm, HS.out⟩
            | false =>
              cases q with
              | true =>
                have HN : Hid (G = k + 1 + (gapF true (s.data.toList.drop (k + 1))).1) := Lib.hid (by rw [HG.out, HD.out, gap_cmt hqs]; omega)
                clear HG
                go_wp2_with fail
                refine (hpf _).mono ?_
                rintro e w2 ⟨rfl, rfl⟩
                go_wp2_with fail

                go_roundw
                case rel => exact ⟨true, k + 1, ln, ls, rfl, HK1, HS2, HN⟩
                case measure => rw [HA1.out, HAT.out]; omega
              | false =>
                have HE : Hid (G = k) := Lib.hid (by rw [HG.out, HD.out, gap_stop h10 h32 h9 rfl hqs]; rfl)
                clear HG
                go_wp2_with fail
                refine (hpf _).mono ?_
                rintro e w2 ⟨rfl, rfl⟩
                go_wp2_with fail
                (try simp only [Exit.inBlock, Exit.then])
                refine bodyPost_ret (results_none rfl _ _ _) rfl ?_
                exact ⟨rfl, HKp.out, k, ln, ls, HE.out.symm, HS.out⟩
    · have HE : Hid (G = k) := Lib.hid (by rw [HG.out, List.drop_of_length_le (by rw [Array.length_toList]; show s.size ≤ k; omega), gapF_nil]; rfl)
      have hlti : ¬ (k : Int) < (s.size : Int) := by omega
      go_wp2_with fail
      go_end0
      exact ⟨rfl, HKp.out, ln, ls, by rw [HE.out]; exact HS.out⟩

end Go.Proofs.YtahpfbmaaccejaaDoor
