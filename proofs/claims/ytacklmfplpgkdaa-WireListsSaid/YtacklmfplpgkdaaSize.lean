/- Contract of wire.TakeSize: the closure, the loop, what both come to. -/
import Derived.Test.YtacklmfplpgkdaaTakes
import Derived.Deep.LoopGhost
namespace Go.Proofs.Ytacklmfplpgkdaa
open Go.RowKit

/-- block g is the cells cs of type t, none frozen -/
def Blk (w : World) (g : Nat) (t : TypeId) (cs : Array Value) : Prop := w.heap[g]? = some (.cells cs t (0, 0))

section
variable {w w' : World} {g : Nat} {t : TypeId} {cs : Array Value}
theorem Blk.lt (h : Blk w g t cs) : g < w.heap.size := by
  rcases Nat.lt_or_ge g w.heap.size with hlt | hge
  · exact hlt
  · unfold Blk at h; rw [Array.getElem?_eq_none hge] at h; cases h
theorem Blk.cell (h : Blk w g t cs) (i : Nat) : w.cell? ⟨g, i, none⟩ = cs[i]? := cell_of_row w g i cs t (0, 0) h
theorem Blk.frozen (h : Blk w g t cs) (i : Nat) : w.frozen? ⟨g, i, none⟩ = false := frozen_of_row w g i cs t h
theorem Blk.new (w : World) (t : TypeId) (cs : Array Value) : Blk (w.alloc (.cells cs t)) w.heap.size t cs := heap_alloc_new w _
theorem Blk.new_at (w : World) (t : TypeId) (cs : Array Value) (k : Nat) (hk : k = w.heap.size) : Blk (w.alloc (.cells cs t)) k t cs := by subst hk; exact Blk.new w t cs
theorem Blk.below {B : Nat} (h : Blk w g t cs) (hb : Below B w w') (hg : g < B) : Blk w' g t cs := (hb.block g hg).trans h
theorem Blk.grown {row : Option Nat} (h : Blk w g t cs) (hb : w.grownBy w' row) (hg : some g ≠ row) : Blk w' g t cs := (hb.block g h.lt hg).trans h
theorem Blk.alloc (h : Blk w g t cs) (o : Obj) : Blk (w.alloc o) g t cs := (Below.heap_alloc w o g h.lt).trans h
theorem Blk.far (h : Blk w g t cs) {p : Addr} (hp : g ≠ p.block) (u : Value) : Blk (w.setCell p u) g t cs := (Below.heap_setCell w p u g hp).trans h
theorem Blk.set_ (h : Blk w g t cs) (i : Nat) (u : Value) : Blk (w.setCell ⟨g, i, none⟩ u) g t (cs.setIfInBounds i u) := heap_setCell_same w g i cs t u h
end

theorem some_ne {a b : Nat} (h : a ≠ b) : some a ≠ some b := fun e => h (by injection e)
theorem gb_below {a w : World} (h : Below a.heap.size a w) (row : Option Nat) : a.grownBy w row := ⟨h.os, h.tape, h.output, h.size, fun i hi _ => h.block i hi⟩
theorem gb_alloc {a w : World} {row : Option Nat} (h : a.grownBy w row) (o : Obj) : a.grownBy (w.alloc o) row := h.trans (World.grownBy_alloc w o row)
theorem gb_set {a w : World} {g : Nat} (h : a.grownBy w (some g)) (i : Nat) (u : Value) : a.grownBy (w.setCell ⟨g, i, none⟩ u) (some g) :=
  ⟨h.os, h.tape, h.output, by simpa [World.setCell] using h.size, fun k hk hne => (Below.heap_setCell w ⟨g, i, none⟩ u k (by rintro rfl; exact hne rfl)).trans (h.block k hk hne)⟩

set_option maxRecDepth 100000 in
set_option maxHeartbeats 1600000 in
theorem group_any (w : World) (B g : Nat) (A : Option Addr) (n c : Nat) (l : List UInt8) (x err : Int) (hg : Blk w g 37 #[.slice A n c, .int .i64 x, .int .i64 err]) (h : Rd w B A n l) (hB : B ≤ w.heap.size) (hx : x ≤ 9223372036854775807) (hc : n ≤ c) (hnm : (n : Int) ≤ 1000000) (hcm : (c : Int) ≤ 9223372036854775807) :
    Calls Try.prog 54 #[.pointer (some ⟨g, 0, none⟩)] w fun e w' => e = .returned (.tuple #[.int .i64 ((beN (nx l x 1 err).1 : Int) % 128), .bool (decide (128 ≤ (beN (nx l x 1 err).1 : Int)))]) ∧
      Blk w' g 37 #[.slice A n c, .int .i64 (nx l x 1 err).2.1, .int .i64 (nx l x 1 err).2.2] ∧ w.grownBy w' (some g) := by
  have H := Lib.hid h
  clear h
  have hlt := hg.lt
  have c0 : w.cell? ⟨g, 0, none⟩ = some (.slice A n c) := hg.cell 0
  have c1 : w.cell? ⟨g, 1, none⟩ = some (.int .i64 x) := hg.cell 1
  have c2 : w.cell? ⟨g, 2, none⟩ = some (.int .i64 err) := hg.cell 2
  have f0 := hg.frozen 0
  have f1 := hg.frozen 1
  have f2 := hg.frozen 2
  have HG := Lib.hid hg
  clear hg
  have hN0 := fun (W : World) (hR : Rd W B A n l) (hBW : B ≤ W.heap.size) => tByte_any W B A n c l x err hR hBW hx hc hnm hcm
  obtain ⟨r, hr⟩ : ∃ r, r = nx l x 1 err := ⟨_, rfl⟩
  rw [← hr] at hN0 ⊢
  clear hr
  obtain ⟨bs, x', e'⟩ := r
  obtain ⟨v, hv⟩ : ∃ v, v = beN bs := ⟨_, rfl⟩
  simp only at hN0 ⊢
  rw [← hv] at hN0 ⊢
  clear hv
  have HN := Lib.hid hN0
  clear hN0
  go_enter Try.func54, Try.ntmps54
  go_wp2_with fail
  refine (HN.out _ H.out hB).mono ?_
  rintro e w1 ⟨rfl, hb1⟩
  obtain ⟨hc1, hf1⟩ := bcells hb1
  have hz1 := hb1.size
  have hg1 : g < w1.heap.size := by omega
  go_wp2_with fail
  go_ret2
  refine ⟨rfl, ?_, ?_⟩
  · exact ((((HG.out.below hb1 hlt).set_ 0 _).set_ 1 _).set_ 2 _).alloc _
  · exact gb_alloc (gb_set (gb_set (gb_set (gb_below hb1 _) 0 _) 1 _) 2 _) _

/-- what the loop over the groups comes to: the number, where the reader is, its error -/
def szL (l : List UInt8) (most x0 : Int) : Nat → Nat → Nat → Int × Int × Int
  | 0, _, _ => (0, x0, 4)
  | f + 1, i, m =>
    if x0 < 0 ∨ (l.length : Int) - (x0 + i) < 1 then (0, x0, 2)
    else if i = 5 then (0, x0, 4)
    else if (l.getD (x0 + i).toNat 0).toNat < 128 then
      if (l.getD (x0 + i).toNat 0).toNat = 0 ∧ 0 < i then (0, x0, 4)
      else if most < ((m + (l.getD (x0 + i).toNat 0).toNat * 128 ^ i : Nat) : Int) then (0, x0, 5)
      else (((m + (l.getD (x0 + i).toNat 0).toNat * 128 ^ i : Nat) : Int), x0 + (i + 1 : Nat), 0)
    else szL l most x0 f (i + 1) (m + ((l.getD (x0 + i).toNat 0).toNat - 128) * 128 ^ i)

def sz (l : List UInt8) (most x0 err : Int) : Int × Int × Int := if err ≠ 0 then (0, x0, err) else szL l most x0 6 0 0

theorem shl_or (m v j : Nat) (hm : m < 128 ^ j) (hj : j ≤ 5) : bits .or .i64 (m : Int) (wrap64 ((v : Int) % 128 * 2 ^ (7 * j))) = ((m + v % 128 * 128 ^ j : Nat) : Int) := by
  have e : (128 : Nat) ^ j = 2 ^ (7 * j) := by rw [Nat.pow_mul]
  have h1 : (128 : Nat) ^ j ≤ 128 ^ 5 := Nat.pow_le_pow_right (by omega) hj
  have h3 : v % 128 < 128 := Nat.mod_lt _ (by omega)
  have h2 : v % 128 * 128 ^ j ≤ 127 * 128 ^ 5 := Nat.mul_le_mul (by omega) h1
  have ec : (v : Int) % 128 * 2 ^ (7 * j) = ((v % 128 * 128 ^ j : Nat) : Int) := by
    rw [e, Int.natCast_mul, Int.natCast_pow]; rfl
  rw [ec, IntWalk.wrap64_in _ ⟨by omega, by omega⟩, i64_or _ _ (by omega) (by omega)]
  congr 1
  rw [Nat.or_comm, Nat.add_comm, e]
  rw [e] at hm
  have := Nat.shiftLeft_add_eq_or_of_lt (i := 7 * j) (b := m) hm (v % 128)
  rw [Nat.shiftLeft_eq] at this
  exact this.symm

/-- what stands at the head of a round -/
def SzRel (l : List UInt8) (most x : Int) (r : Int × Int × Int) (i m : Nat) (ei : Int) : Prop :=
  m < 128 ^ i ∧ (0 < i → 0 ≤ x) ∧ ((ei = 0 ∧ szL l most x (6 - i) i m = r) ∨ (i = 0 ∧ ei ≠ 0 ∧ r = (0, x, ei)))

theorem SzRel.start (l : List UInt8) (most x err : Int) : SzRel l most x (sz l most x err) 0 0 err := by
  refine ⟨by simp, by omega, ?_⟩
  by_cases h : err = 0
  · exact .inl ⟨h, by unfold sz; rw [if_neg (by simpa using h)]⟩
  · exact .inr ⟨rfl, h, by unfold sz; rw [if_pos h]⟩

theorem take_one (l : List UInt8) (a : Nat) (h : a < l.length) : (l.drop a).take 1 = [l.getD a 0] := by
  rw [List.drop_eq_getElem_cons h, List.take_succ_cons, List.take_zero]
  simp [List.getD, h]

theorem SzRel.next {l : List UInt8} {most x : Int} {r : Int × Int × Int} {j m : Nat} {ei : Int} (h : SzRel l most x r j m ei) (hj : j ≤ 5) {bs : List UInt8} {x' e' : Int} (hq : (bs, x', e') = nx l (x + j) 1 ei) {v : Nat} (hv : v = beN bs) :
    (e' ≠ 0 → r = (0, x, e')) ∧
    (e' = 0 → x' = x + j + 1 ∧ x + j + 1 ≤ l.length ∧
      (j = 5 → r = (0, x, 4)) ∧
      (j < 5 → v < 128 → v = 0 ∧ 0 < j → r = (0, x, 4)) ∧
      (j < 5 → v < 128 → ¬ (v = 0 ∧ 0 < j) → most < ((m + v % 128 * 128 ^ j : Nat) : Int) → r = (0, x, 5)) ∧
      (j < 5 → v < 128 → ¬ (v = 0 ∧ 0 < j) → ¬ most < ((m + v % 128 * 128 ^ j : Nat) : Int) → r = (((m + v % 128 * 128 ^ j : Nat) : Int), x + j + 1, 0)) ∧
      (j < 5 → 128 ≤ v → SzRel l most x r (j + 1) (m + v % 128 * 128 ^ j) 0)) := by
  obtain ⟨hm, hx0, ⟨rfl, hs⟩ | ⟨rfl, hei, rfl⟩⟩ := h
  · obtain ⟨f, hf⟩ : ∃ f, 6 - j = f + 1 := ⟨5 - j, by omega⟩
    rw [hf] at hs
    unfold szL at hs
    by_cases hsh : x < 0 ∨ (l.length : Int) - (x + j) < 1
    · rw [if_pos hsh] at hs
      have hn : nx l (x + j) 1 0 = ([], x + j, 2) := by
        unfold nx
        rw [if_neg (by simp), if_pos]
        rcases hsh with h1 | h1
        · rcases Nat.eq_zero_or_pos j with h0 | h0
          · subst h0; simp; omega
          · have := hx0 h0; omega
        · exact .inr h1
      rw [hn] at hq
      simp only [Prod.mk.injEq] at hq
      obtain ⟨rfl, rfl, rfl⟩ := hq
      exact ⟨fun _ => hs.symm, fun h => absurd h (by omega)⟩
    · rw [if_neg hsh] at hs
      have hx1 : 0 ≤ x := by omega
      have hx2 : x + j + 1 ≤ l.length := by omega
      have hn : nx l (x + j) 1 0 = ((l.drop (x + j).toNat).take 1, x + j + 1, 0) := by
        unfold nx
        rw [if_neg (by simp), if_neg (by omega)]
        rfl
      rw [hn, take_one l _ (by omega)] at hq
      simp only [Prod.mk.injEq] at hq
      obtain ⟨rfl, rfl, rfl⟩ := hq
      have hvb : v = (l.getD (x + j).toNat 0).toNat := by rw [hv]; simp [beN]
      rw [← hvb] at hs
      refine ⟨fun h => absurd rfl h, fun _ => ⟨rfl, hx2, fun h5 => ?_, fun h5 hv1 hz => ?_, fun h5 hv1 hz hmo => ?_, fun h5 hv1 hz hmo => ?_, fun h5 hv1 => ?_⟩⟩
      · rw [if_pos h5] at hs; exact hs.symm
      · rw [if_neg (by omega), if_pos hv1, if_pos hz] at hs; exact hs.symm
      · rw [if_neg (by omega), if_pos hv1, if_neg hz] at hs
        rw [Nat.mod_eq_of_lt hv1] at hmo
        rw [if_pos hmo] at hs; exact hs.symm
      · rw [if_neg (by omega), if_pos hv1, if_neg hz] at hs
        rw [Nat.mod_eq_of_lt hv1] at hmo ⊢
        rw [if_neg hmo] at hs
        rw [← hs]
        simp only [Prod.mk.injEq, and_true, true_and]
        omega
      · rw [if_neg (by omega), if_neg (by omega)] at hs
        have hv2 : v < 256 := by rw [hvb]; exact UInt8.toNat_lt _
        have hv3 : v % 128 = v - 128 := by omega
        refine ⟨?_, fun _ => hx1, .inl ⟨rfl, ?_⟩⟩
        · have h2 : v % 128 * 128 ^ j ≤ 127 * 128 ^ j := Nat.mul_le_mul_right _ (by omega)
          rw [Nat.pow_succ]
          omega
        · rw [show 6 - (j + 1) = f from by omega, hv3]
          exact hs
  · have hn : nx l (x + (0 : Nat)) 1 ei = ([], x + (0 : Nat), ei) := by unfold nx; rw [if_pos hei]
    rw [hn] at hq
    simp only [Prod.mk.injEq] at hq
    obtain ⟨rfl, rfl, rfl⟩ := hq
    exact ⟨fun _ => rfl, fun h => absurd h hei⟩

set_option maxRecDepth 100000 in
set_option maxHeartbeats 1600000 in
theorem tSize_any (w : World) (B : Nat) (A : Option Addr) (n c : Nat) (l : List UInt8) (x err most : Int) (h : Rd w B A n l) (hB : B ≤ w.heap.size) (hx : x ≤ 9223372036854775807) (hc : n ≤ c) (hnm : (n : Int) ≤ 1000000) (hcm : (c : Int) ≤ 9223372036854775807) :
    Calls Try.prog 32 #[rv A n c x err, .int .i64 most] w fun e w' => e = .returned (.tuple #[.int .i64 (sz l most x err).1, rv A n c (sz l most x err).2.1 (sz l most x err).2.2]) ∧ Below w.heap.size w w' := by
  have H := Lib.hid h
  clear h
  have HS := Lib.hid (SzRel.start l most x err)
  obtain ⟨r, hr⟩ : ∃ r, r = sz l most x err := ⟨_, rfl⟩
  rw [← hr] at HS ⊢
  clear hr
  go_enter Try.func32, Try.ntmps32
  go_wp2_with fail
  go_step3
  go_wp2_with fail
  go_step3
  go_wp2_with fail
  go_loopw [8, 9] (fun v i wr => ∃ (j m : Nat) (ei : Int), j ≤ 5 ∧ i = .int .i64 j ∧ v = .int .i64 m ∧ x + j ≤ 9223372036854775807 ∧ Hid (SzRel l most x r j m ei) ∧
      Blk wr w.heap.size 37 #[.slice A n c, .int .i64 x, .int .i64 err] ∧ Blk wr (w.heap.size + 1) 37 #[.slice none 0 0, .int .i64 0, .int .i64 0] ∧ Blk wr (w.heap.size + 1 + 1) 37 #[.slice A n c, .int .i64 (x + j), .int .i64 ei] ∧ Below w.heap.size w wr)
    (fun _ i _ => 6 - (intOf i).toNat)
  case atStart =>
    refine ⟨0, 0, err, by omega, rfl, rfl, by simpa using hx, HS, ?_, ?_, ?_, ?_⟩
    · exact (((Blk.new w _ _).alloc _).alloc _)
    · exact ((Blk.new_at (w.alloc _) _ _ _ (by simp)).alloc _)
    · rw [show x + ((0 : Nat) : Int) = x from by simp]; exact Blk.new_at ((w.alloc _).alloc _) _ _ _ (by simp)
    · exact (((Below.refl _ _).alloc (Nat.le_refl _) _).alloc (by simp) _).alloc (by simp; omega) _
  case round =>
    obtain ⟨j, m, ei, hj, rfl, rfl, hxj, HR, b2, b5, b6, hbel⟩ := hrel
    have c20 := b2.cell 0
    have c21 := b2.cell 1
    have c22 := b2.cell 2
    have c60 := b6.cell 0
    have c61 := b6.cell 1
    have c62 := b6.cell 2
    have c50 := b5.cell 0
    have c51 := b5.cell 1
    have c52 := b5.cell 2
    have f50 := b5.frozen 0
    have f51 := b5.frozen 1
    have f52 := b5.frozen 2
    have hbs := hbel.size
    have B2 := Lib.hid b2
    have B5 := Lib.hid b5
    have B6 := Lib.hid b6
    clear b2 b5 b6
    have hG0 := group_any wr B (w.heap.size + 1 + 1) A n c l (x + j) ei B6.out (H.out.below (hbel.mono hB)) (by omega) hxj hc hnm hcm
    obtain ⟨q, hq⟩ : ∃ q, q = nx l (x + j) 1 ei := ⟨_, rfl⟩
    rw [← hq] at hG0
    have HQ := Lib.hid hq
    clear hq
    obtain ⟨bs, x', e'⟩ := q
    obtain ⟨v, hv⟩ : ∃ v, v = beN bs := ⟨_, rfl⟩
    simp only at hG0
    rw [← hv] at hG0
    have HV := Lib.hid hv
    clear hv
    have HG := Lib.hid hG0
    clear hG0
    simp only [List.getElem?_toArray, List.getElem?_cons_zero, List.getElem?_cons_succ] at c20 c21 c22 c50 c51 c52 c60 c61 c62
    have hv256 : v < 256 := by
      have h8 := beN_lt bs
      have h9 : bs.length ≤ 1 := by
        have := congrArg Prod.fst HQ.out
        simp only at this
        rw [this]
        unfold nx
        split
        · simp
        · split
          · simp
          · simp only [List.length_take]; omega
      rw [← HV.out] at h8
      have : 256 ^ bs.length ≤ 256 ^ 1 := Nat.pow_le_pow_right (by omega) h9
      omega
    obtain ⟨M, hM⟩ : ∃ M, M = m + v % 128 * 128 ^ j := ⟨_, rfl⟩
    have hor := shl_or m v j HR.out.1 hj
    rw [← hM] at hor
    have HM := Lib.hid hM
    clear hM
    have hMb : M < 128 ^ 6 := by
      have h1 : 128 ^ j ≤ 128 ^ 5 := Nat.pow_le_pow_right (by omega) hj
      have h2 : v % 128 * 128 ^ j ≤ 127 * 128 ^ 5 := Nat.mul_le_mul (by omega) h1
      have h3 := HR.out.1
      rw [HM.out]
      omega
    go_wp2_with fail
    refine HG.out.mono ?_
    rintro e w1 ⟨rfl, b61, hg1⟩
    have d20 := (B2.out.grown hg1 (some_ne (by omega))).cell 0
    have d21 := (B2.out.grown hg1 (some_ne (by omega))).cell 1
    have d22 := (B2.out.grown hg1 (some_ne (by omega))).cell 2
    have d50 := (B5.out.grown hg1 (some_ne (by omega))).cell 0
    have d51 := (B5.out.grown hg1 (some_ne (by omega))).cell 1
    have d52 := (B5.out.grown hg1 (some_ne (by omega))).cell 2
    have d60 := b61.cell 0
    have d61 := b61.cell 1
    have d62 := b61.cell 2
    simp only [List.getElem?_toArray, List.getElem?_cons_zero, List.getElem?_cons_succ] at d20 d21 d22 d50 d51 d52 d60 d61 d62
    have g50 := (B5.out.grown hg1 (some_ne (by omega))).frozen 0
    have g51 := (B5.out.grown hg1 (some_ne (by omega))).frozen 1
    have g52 := (B5.out.grown hg1 (some_ne (by omega))).frozen 2
    have hz1 := b61.lt
    have B61 := Lib.hid b61
    have hbel1 : Below w.heap.size w w1 := hbel.grown hg1 hbs (by intro k hk; simp at hk; omega)
    have B21 := Lib.hid (B2.out.grown hg1 (some_ne (by omega)))
    have B51 := Lib.hid (B5.out.grown hg1 (some_ne (by omega)))
    clear b61 hg1 c20 c21 c22 c50 c51 c52 c60 c61 c62 f50 f51 f52
    have hnext := Lib.hid (SzRel.next HR.out hj HQ.out HV.out)
    have hMeq := HM.out
    rw [← hMeq] at hnext
    have HMeq := Lib.hid hMeq
    clear hMeq
    by_cases he : e' = 0
    · subst he
      obtain ⟨hx', hxl, hA, hB', hC, hD, hE⟩ := hnext.out.2 rfl
      subst hx'
      have hlc : (l.length : Int) ≤ 1000000 := by have := H.out.1; omega
      have hxj1 : x + j + 1 ≤ 281474976710656 := by omega
      have HA := Lib.hid hA
      have HB' := Lib.hid hB'
      have HC := Lib.hid hC
      have HD := Lib.hid hD
      have HE := Lib.hid hE
      clear hA hB' hC hD hE hlc hxl
      by_cases h5 : j = 5
      · have hr := HA.out h5
        have HR5 := Lib.hid hr
        have h5b : ((j : Int) == 5) = true := beq_iff_eq.2 (by omega)
        clear hr h5
        go_wp2_with fail
        refine (failed_any _ _ _ _ _ _ _).mono ?_
        rintro e w2 ⟨rfl, hb2⟩
        have B52 := B51.out.below hb2 (by omega)
        have k50 := B52.cell 0
        have k51 := B52.cell 1
        have k52 := B52.cell 2
        have l50 := B52.frozen 0
        have l51 := B52.frozen 1
        have l52 := B52.frozen 2
        have HB52 := Lib.hid B52
        clear B52
        simp only [List.getElem?_toArray, List.getElem?_cons_zero, List.getElem?_cons_succ] at k50 k51 k52
        have hz2 := hb2.size
        go_wp2_with fail
        try rw [Exit.noGoto_ret]
        refine bodyPost_ret (v := .tuple #[.int .i64 0, rv A n c x 4]) (by simp [results, Try.results32, go_sem, k50, k51, k52]) rfl ⟨by rw [HR5.out], ?_⟩
        exact (((hbel1.trans (hb2.mono (by omega))).setCell (by simp) _).setCell (by simp) _).setCell (by simp) _
      · have h5b : ((j : Int) == 5) = false := beq_eq_false_iff_ne.2 (by omega)
        have h5l : (j : Int) < 5 := by omega
        by_cases hv1 : v < 128
        · have hvd : decide (128 ≤ (v : Int)) = false := by simp; omega
          by_cases hz : v = 0 ∧ 0 < j
          · have hr := HB'.out (by omega) hv1 hz
            have HR5 := Lib.hid hr
            clear hr
            have hvz : ((v : Int) == 0) = true := beq_iff_eq.2 (by omega)
            have hvz2 : ((v : Int) % 128 == 0) = true := beq_iff_eq.2 (by omega)
            have hj0 : 0 < (j : Int) := by omega
            clear hz
            go_wp2_with fail
            refine (failed_any _ _ _ _ _ _ _).mono ?_
            rintro e w2 ⟨rfl, hb2⟩
            have B52 := B51.out.below hb2 (by omega)
            have k50 := B52.cell 0
            have k51 := B52.cell 1
            have k52 := B52.cell 2
            have l50 := B52.frozen 0
            have l51 := B52.frozen 1
            have l52 := B52.frozen 2
            have HB52 := Lib.hid B52
            clear B52
            simp only [List.getElem?_toArray, List.getElem?_cons_zero, List.getElem?_cons_succ] at k50 k51 k52
            have hz2 := hb2.size
            go_wp2_with fail
            try rw [Exit.noGoto_ret]
            refine bodyPost_ret (v := .tuple #[.int .i64 0, rv A n c x 4]) (by simp [results, Try.results32, go_sem, k50, k51, k52]) rfl ⟨by rw [HR5.out], ?_⟩
            exact (((hbel1.trans (hb2.mono (by omega))).setCell (by simp) _).setCell (by simp) _).setCell (by simp) _
          · by_cases hmo : most < (M : Int)
            · have hr := HC.out (by omega) hv1 hz hmo
              have HR5 := Lib.hid hr
              clear hr
              by_cases hv0 : v = 0
              · have hvz : ((v : Int) == 0) = true := beq_iff_eq.2 (by omega)
                have hvz2 : ((v : Int) % 128 == 0) = true := beq_iff_eq.2 (by omega)
                have hj0 : ¬ 0 < (j : Int) := by omega
                clear hz hv0
                go_wp2_with fail
                refine (failed_any _ _ _ _ _ _ _).mono ?_
                rintro e w2 ⟨rfl, hb2⟩
                have B52 := B51.out.below hb2 (by omega)
                have k50 := B52.cell 0
                have k51 := B52.cell 1
                have k52 := B52.cell 2
                have l50 := B52.frozen 0
                have l51 := B52.frozen 1
                have l52 := B52.frozen 2
                have HB52 := Lib.hid B52
                clear B52
                simp only [List.getElem?_toArray, List.getElem?_cons_zero, List.getElem?_cons_succ] at k50 k51 k52
                have hz2 := hb2.size
                go_wp2_with fail
                try rw [Exit.noGoto_ret]
                refine bodyPost_ret (v := .tuple #[.int .i64 0, rv A n c x 5]) (by simp [results, Try.results32, go_sem, k50, k51, k52]) rfl ⟨by rw [HR5.out], ?_⟩
                exact (((hbel1.trans (hb2.mono (by omega))).setCell (by simp) _).setCell (by simp) _).setCell (by simp) _
              · have hvz : ((v : Int) == 0) = false := beq_eq_false_iff_ne.2 (by omega)
                have hvz2 : ((v : Int) % 128 == 0) = false := beq_eq_false_iff_ne.2 (by omega)
                clear hz hv0
                go_wp2_with fail
                refine (failed_any _ _ _ _ _ _ _).mono ?_
                rintro e w2 ⟨rfl, hb2⟩
                have B52 := B51.out.below hb2 (by omega)
                have k50 := B52.cell 0
                have k51 := B52.cell 1
                have k52 := B52.cell 2
                have l50 := B52.frozen 0
                have l51 := B52.frozen 1
                have l52 := B52.frozen 2
                have HB52 := Lib.hid B52
                clear B52
                simp only [List.getElem?_toArray, List.getElem?_cons_zero, List.getElem?_cons_succ] at k50 k51 k52
                have hz2 := hb2.size
                go_wp2_with fail
                try rw [Exit.noGoto_ret]
                refine bodyPost_ret (v := .tuple #[.int .i64 0, rv A n c x 5]) (by simp [results, Try.results32, go_sem, k50, k51, k52]) rfl ⟨by rw [HR5.out], ?_⟩
                exact (((hbel1.trans (hb2.mono (by omega))).setCell (by simp) _).setCell (by simp) _).setCell (by simp) _
            · have hr := HD.out (by omega) hv1 hz hmo
              have HR5 := Lib.hid hr
              clear hr
              by_cases hv0 : v = 0
              · have hvz : ((v : Int) == 0) = true := beq_iff_eq.2 (by omega)
                have hvz2 : ((v : Int) % 128 == 0) = true := beq_iff_eq.2 (by omega)
                have hj0 : ¬ 0 < (j : Int) := by omega
                clear hz hv0
                go_wp2_with fail
                go_region
                all_goals
                  go_wp2
                  try rw [Exit.noGoto_ret]
                  refine bodyPost_ret (v := .tuple #[.int .i64 M, rv A n c (x + j + 1) 0]) (by simp [results, Try.results32, go_sem, d50, d51, d52]) rfl ⟨by rw [HR5.out], ?_⟩
                  exact (((hbel1.setCell (by simp) _).setCell (by simp) _).setCell (by simp) _).drew
              · have hvz : ((v : Int) == 0) = false := beq_eq_false_iff_ne.2 (by omega)
                have hvz2 : ((v : Int) % 128 == 0) = false := beq_eq_false_iff_ne.2 (by omega)
                clear hz hv0
                go_wp2_with fail
                go_region
                all_goals
                  go_wp2
                  try rw [Exit.noGoto_ret]
                  refine bodyPost_ret (v := .tuple #[.int .i64 M, rv A n c (x + j + 1) 0]) (by simp [results, Try.results32, go_sem, d50, d51, d52]) rfl ⟨by rw [HR5.out], ?_⟩
                  exact (((hbel1.setCell (by simp) _).setCell (by simp) _).setCell (by simp) _).drew
        · have hvd : decide (128 ≤ (v : Int)) = true := by simp; omega
          have hr := HE.out (by omega) (by omega)
          have HR5 := Lib.hid hr
          clear hr
          go_wp2_with fail
          go_roundw
          case rel => exact ⟨j + 1, M, 0, by omega, by go_num, rfl, by omega, HR5, B21.out, B51.out, by rw [show x + ((j + 1 : Nat) : Int) = x + j + 1 from by omega]; exact B61.out, hbel1⟩
          case measure => simp [intOf]; omega
    · have hbe : (e' == 0) = false := beq_eq_false_iff_ne.2 he
      have hbe2 : (e' != 0) = true := by rw [bne_iff_ne]; exact he
      go_wp2_with fail
      refine (failed_any _ _ _ _ _ _ _).mono ?_
      rintro e w2 ⟨rfl, hb2⟩
      have B52 := B51.out.below hb2 (by omega)
      have k50 := B52.cell 0
      have k51 := B52.cell 1
      have k52 := B52.cell 2
      have l50 := B52.frozen 0
      have l51 := B52.frozen 1
      have l52 := B52.frozen 2
      have HB52 := Lib.hid B52
      clear B52
      simp only [List.getElem?_toArray, List.getElem?_cons_zero, List.getElem?_cons_succ] at k50 k51 k52
      have hz2 := hb2.size
      go_wp2_with fail
      try rw [Exit.noGoto_ret]
      refine bodyPost_ret (v := .tuple #[.int .i64 0, rv A n c x e']) (by simp [results, Try.results32, go_sem, k50, k51, k52]) rfl ⟨by rw [hnext.out.1 he], ?_⟩
      exact (((hbel1.trans (hb2.mono (by omega))).setCell (by simp) _).setCell (by simp) _).setCell (by simp) _

end Go.Proofs.Ytacklmfplpgkdaa
