/- Contracts of wire's functions that take numbers off a reader: the parts. -/
import Derived.Test.YtpenilbnhhcmiaaPutsR
import Derived.StillTailTactics
import Derived.Deep.RegionWith
namespace Go.Proofs.Ytpenilbnhhcmiaa
open Go.RowKit

/-- a reader's value -/
abbrev rv (A : Option Addr) (n c : Nat) (at_ err : Int) : Value := .agg #[.slice A n c, .int .i64 at_, .int .i64 err]

/-- the number of bytes, the greatest first -/
def beN (l : List UInt8) : Nat := l.foldl (fun a b => a * 256 + b.toNat) 0

theorem beN_take (l : List UInt8) (j : Nat) (hj : j < l.length) : beN (l.take (j + 1)) = beN (l.take j) * 256 + l[j].toNat := by
  rw [List.take_succ_eq_append_getElem hj]
  unfold beN
  rw [List.foldl_append]
  rfl

theorem beN_lt (l : List UInt8) : beN l < 256 ^ l.length := by
  have h : ∀ (l : List UInt8) (a : Nat), l.foldl (fun a b => a * 256 + b.toNat) a < (a + 1) * 256 ^ l.length := by
    intro l
    induction l with
    | nil => intro a; simp
    | cons b l ih =>
      intro a
      have := b.toNat_lt
      have h1 := ih (a * 256 + b.toNat)
      have h2 : (a * 256 + b.toNat + 1) * 256 ^ l.length ≤ (a + 1) * 256 ^ (l.length + 1) := by
        rw [Nat.pow_succ, Nat.mul_comm (256 ^ l.length) 256, ← Nat.mul_assoc]
        exact Nat.mul_le_mul_right _ (by omega)
      simp only [List.foldl_cons, List.length_cons]
      omega
  have := h l 0
  simpa [beN] using this

theorem ret_int {k : IntKind} {a b : Int} (h : a = b) : Ending.returned (.int k a) = .returned (.int k b) := by rw [h]

theorem beN_take_lt (l : List UInt8) (j k : Nat) (hk : j ≤ k) : beN (l.take j) < 256 ^ k := by
  refine Nat.lt_of_lt_of_le (beN_lt _) (Nat.pow_le_pow_right (by omega) ?_)
  rw [List.length_take]
  omega

theorem or_byte (t b : Nat) (hb : b < 256) : t * 256 ||| b = t * 256 + b := by
  have := Nat.shiftLeft_add_eq_or_of_lt (i := 8) (b := b) (by simpa using hb) t
  rw [Nat.shiftLeft_eq] at this
  exact this.symm

theorem ofInt_i64 (a : Nat) (ha : a < 9223372036854775808) : (BitVec.ofInt 64 (a : Int)).toNat = a := by
  rw [BitVec.ofInt_natCast, BitVec.toNat_ofNat]; exact Nat.mod_eq_of_lt (by omega)

theorem i64_or (a b : Nat) (ha : a < 9223372036854775808) (hb : b < 9223372036854775808) : bits .or .i64 (a : Int) (b : Int) = ((a ||| b : Nat) : Int) := by
  have hx : a ||| b < 2 ^ 63 := Nat.or_lt_two_pow (by omega) (by omega)
  show IntKind.i64.wrap ((BitVec.ofInt 64 (a : Int) ||| BitVec.ofInt 64 (b : Int)).toNat : Int) = _
  rw [BitVec.toNat_or, ofInt_i64 a ha, ofInt_i64 b hb, IntKind.wrap_i64]
  omega

theorem orI_byte (t : Nat) (b : UInt8) (ht : t < 256) : bits .or .i64 ((t : Int) * 256) (b.toNat : Int) = ((t * 256 + b.toNat : Nat) : Int) := by
  have := b.toNat_lt
  have h := i64_or (t * 256) b.toNat (by omega) (by omega)
  rw [or_byte _ _ (by omega)] at h
  rw [← h]
  rfl

theorem or32_byte (t : Nat) (b : UInt8) (ht : t < 16777216) : bits .or .u32 ((t : Int) * 256) (b.toNat : Int) = ((t * 256 + b.toNat : Nat) : Int) := by
  have := b.toNat_lt
  have h := u32_or_nat (t * 256) b.toNat (by omega) (by omega)
  rw [or_byte _ _ (by omega)] at h
  rw [← h]
  rfl

theorem or64_byte (t : Nat) (b : UInt8) (ht : t < 72057594037927936) : bits .or .u64 ((t : Int) * 256) (b.toNat : Int) = ((t * 256 + b.toNat : Nat) : Int) := by
  have := b.toNat_lt
  have h := u64_or_nat (t * 256) b.toNat (by omega) (by omega)
  rw [or_byte _ _ (by omega)] at h
  rw [← h]
  rfl

set_option maxRecDepth 100000 in
set_option maxHeartbeats 800000 in
theorem join32_any (w : World) (B : Nat) (A : Option Addr) (n c : Nat) (l : List UInt8) (h : Rd w B A n l) (hn : n ≤ 4) :
    Calls Try.prog 24 #[.slice A n c] w fun e w' => e = .returned (.int .u32 (beN l)) ∧ w = w' := by
  have H := Lib.hid h
  clear h
  go_enter Try.func24, Try.ntmps24
  go_wp2_with fail
  go_loop [3, 9] (fun v i => ∃ (j : Nat) (t : Nat), j ≤ n ∧ i = .int .i64 j ∧ v = .int .u32 t ∧ Hid (t = beN (l.take j))) (fun _ i => n - (intOf i).toNat)
  case atStart => exact ⟨0, 0, Nat.zero_le _, rfl, rfl, rfl⟩
  case round =>
    obtain ⟨j, t, hj, rfl, rfl, HT⟩ := hrel
    by_cases hlt : j < n
    · have ht : t < 16777216 := by
        have h9 := beN_take_lt l j 3 (by omega)
        rw [← HT.out] at h9
        omega
      obtain ⟨ad, rfl, hab, hcell⟩ := H.out.2 (by omega)
      have hjl : j < l.length := by rw [H.out.1]; exact hlt
      have hc := hcell j hjl
      clear hcell
      obtain ⟨b, hb⟩ : ∃ b, b = l[j] := ⟨_, rfl⟩
      rw [← hb] at hc
      have hb2 := b.toNat_lt
      have HB := Lib.hid hb
      clear hb
      go_wp2_with fail
      go_round
      case rel =>
        refine ⟨j + 1, t * 256 + b.toNat, by omega, by go_num, ?_, ?_⟩
        · rw [or32_byte t b ht]
        · show t * 256 + b.toNat = beN (l.take (j + 1))
          rw [beN_take l j hjl, HT.out, HB.out]
      case measure => simp [intOf]; omega
    · go_wp2_with fail
      go_ret
      have e : beN l = t := by rw [HT.out, List.take_of_length_le (by rw [H.out.1]; omega)]
      exact ⟨ret_int (by rw [e]), rfl⟩

set_option maxRecDepth 100000 in
set_option maxHeartbeats 800000 in
theorem failed_any (w : World) (A : Option Addr) (n c : Nat) (a e0 e1 : Int) :
    Calls Try.prog 28 #[rv A n c a e0, .int .i64 e1] w fun e w' => e = .returned (rv A n c a e1) ∧ Below w.heap.size w w' := by
  go_enter Try.func28, Try.ntmps28
  go_wp2
  exact bodyPost_ret (v := rv A n c a e1) (by simp [results, Try.results28, go_sem]) rfl ⟨rfl, ((Below.refl _ _).alloc (Nat.le_refl _) _).alloc (by simp) _⟩

theorem add_add (p : Addr) (a j : Nat) : (p.add a).add j = p.add (a + j) := by
  unfold Addr.add
  by_cases h : a = 0
  · subst h; simp
  · by_cases h2 : j = 0
    · subst h2; simp
    · rw [if_neg h, if_neg h2, if_neg (by omega)]
      simp [Nat.add_assoc]

theorem Rd.cut {w : World} {B : Nat} {A : Option Addr} {n : Nat} {l : List UInt8} (h : Rd w B A n l) (a k : Nat) (hk : a + k ≤ n) : Rd w B (A.map (·.add a)) k ((l.drop a).take k) := by
  have hl := h.1
  refine ⟨by rw [List.length_take, List.length_drop]; omega, fun hk0 => ?_⟩
  obtain ⟨ad, rfl, hb, hc⟩ := h.2 (by omega)
  refine ⟨ad.add a, rfl, by rw [blk_add]; exact hb, fun j hj => ?_⟩
  have hj2 : j < k := by rw [List.length_take] at hj; omega
  rw [add_add, hc (a + j) (by omega)]
  simp

/-- What 'next' leaves where the bytes are there. -/
def NextR (w : World) (B : Nat) (A : Option Addr) (n c : Nat) (l : List UInt8) (a k : Nat) (e : Ending) (w' : World) : Prop :=
  ∃ A' c', e = .returned (.tuple #[.slice A' k c', rv A n c ((a : Int) + (k : Int)) 0]) ∧ Rd w' B A' k ((l.drop a).take k) ∧ Below w.heap.size w w' ∧ k ≤ c' ∧ c' ≤ c

set_option maxRecDepth 100000 in
set_option maxHeartbeats 800000 in
theorem next_ok (w : World) (B : Nat) (A : Option Addr) (n c : Nat) (l : List UInt8) (a k : Nat) (x y : Int) (hx : x = (a : Int)) (hy : y = (k : Int)) (h : Rd w B A n l) (hB : B ≤ w.heap.size) (hak : a + k ≤ n) (hc : n ≤ c) (hcm : (c : Int) ≤ 9223372036854775807) :
    Calls Try.prog 23 #[rv A n c x 0, .int .i64 y] w (NextR w B A n c l a k) := by
  subst hx hy
  have H := Lib.hid h
  clear h
  have hak2 : ¬ (n : Int) - a < k := by omega
  go_enter Try.func23, Try.ntmps23
  go_wp2
  all_goals go_region
  all_goals go_wp2
  · have hk0 : k = 0 := by omega
    refine bodyPost_ret (v := .tuple #[.slice A k 0, rv A n c ((a : Int) + k) 0]) (by simp [results, Try.results23, go_sem]; omega) rfl ⟨A, 0, rfl, ?_, (((Below.refl _ _).alloc (Nat.le_refl _) _).alloc (by simp) _).drew, by omega, by omega⟩
    subst hk0
    exact ⟨by simp, fun hh => absurd hh (by omega)⟩
  · refine bodyPost_ret (v := .tuple #[.slice (A.map fun p => p.add a) k (c - a), rv A n c ((a : Int) + k) 0]) (by simp [results, Try.results23, go_sem]) rfl ⟨_, c - a, rfl, ?_, (((Below.refl _ _).alloc (Nat.le_refl _) _).alloc (by simp) _).drew, by omega, by omega⟩
    exact ((H.out.cut a k hak).alloc hB _ |>.alloc (by simp; omega) _)

set_option maxRecDepth 100000 in
set_option maxHeartbeats 800000 in
theorem next_err (w : World) (A : Option Addr) (n c : Nat) (x y err : Int) (he : err ≠ 0) :
    Calls Try.prog 23 #[rv A n c x err, .int .i64 y] w fun e w' => e = .returned (.tuple #[.slice none 0 0, rv A n c x err]) ∧ Below w.heap.size w w' := by
  have hb : (err == 0) = false := beq_eq_false_iff_ne.2 he
  have hb2 : (err != 0) = true := by rw [bne_iff_ne]; exact he
  go_enter Try.func23, Try.ntmps23
  go_wp2
  all_goals go_region
  all_goals go_wp2
  exact bodyPost_ret (v := .tuple #[.slice none 0 0, rv A n c x err]) (by simp [results, Try.results23, go_sem]) rfl ⟨rfl, (((Below.refl _ _).alloc (Nat.le_refl _) _).alloc (by simp) _).drew⟩

set_option maxRecDepth 100000 in
set_option maxHeartbeats 800000 in
theorem next_short (w : World) (A : Option Addr) (n c : Nat) (x y : Int) (hs : x < 0 ∨ (n : Int) - x < y) (hn : n ≤ 281474976710656) (hx : x ≤ 9223372036854775807) :
    Calls Try.prog 23 #[rv A n c x 0, .int .i64 y] w fun e w' => e = .returned (.tuple #[.slice none 0 0, rv A n c x 2]) ∧ Below w.heap.size w w' := by
  by_cases h0 : x < 0
  all_goals
    go_enter Try.func23, Try.ntmps23
    go_wp2_with (go_at_call 28; refine (failed_any _ _ _ _ _ _ _).mono ?_; rintro e w1 ⟨rfl, hb1⟩; obtain ⟨hc1, hf1⟩ := bcells hb1)
    exact bodyPost_ret (v := .tuple #[.slice none 0 0, rv A n c x 2]) (by simp [results, Try.results23, go_sem, hc1]) rfl
      ⟨rfl, ((((((Below.refl _ _).alloc (Nat.le_refl _) _).alloc (by simp) _).trans (hb1.mono (by simp; omega))).setCell (by simp) _).setCell (by simp) _).setCell (by simp) _⟩

/-- what 'next' comes to: the bytes, where the reader is, its error -/
def nx (l : List UInt8) (x y err : Int) : List UInt8 × Int × Int :=
  if err ≠ 0 then ([], x, err) else if x < 0 ∨ (l.length : Int) - x < y then ([], x, 2) else ((l.drop x.toNat).take y.toNat, x + y, 0)

def NextP (w : World) (B : Nat) (A : Option Addr) (n c : Nat) (y : Int) (r : List UInt8 × Int × Int) (e : Ending) (w' : World) : Prop :=
  ∃ A' n' c', e = .returned (.tuple #[.slice A' n' c', rv A n c r.2.1 r.2.2]) ∧ Rd w' B A' n' r.1 ∧ (n' : Int) ≤ y ∧ Below w.heap.size w w' ∧ n' ≤ c' ∧ c' ≤ c

theorem next_any (w : World) (B : Nat) (A : Option Addr) (n c : Nat) (l : List UInt8) (x y err : Int) (h : Rd w B A n l) (hB : B ≤ w.heap.size) (hy : 0 ≤ y) (hx : x ≤ 9223372036854775807) (hc : n ≤ c) (hnm : (n : Int) ≤ 1000000) (hcm : (c : Int) ≤ 9223372036854775807) :
    Calls Try.prog 23 #[rv A n c x err, .int .i64 y] w (NextP w B A n c y (nx l x y err)) := by
  have hl := h.1
  by_cases he : err = 0
  · subst he
    by_cases hs : x < 0 ∨ (n : Int) - x < y
    · have e : nx l x y 0 = ([], x, 2) := by unfold nx; rw [if_neg (by simp), if_pos (by rw [hl]; exact hs)]
      rw [e]
      refine (next_short w A n c x y hs (by omega) hx).mono ?_
      rintro e w' ⟨rfl, hb⟩
      exact ⟨none, 0, 0, rfl, ⟨rfl, fun h => absurd h (by omega)⟩, by omega, hb, by omega, by omega⟩
    · have e : nx l x y 0 = ((l.drop x.toNat).take y.toNat, x + y, 0) := by unfold nx; rw [if_neg (by simp), if_neg (by rw [hl]; exact hs)]
      rw [e]
      refine (next_ok w B A n c l x.toNat y.toNat x y (by omega) (by omega) h hB (by omega) hc hcm).mono ?_
      rintro e w' ⟨A', c', rfl, hr, hb, hk, hkc⟩
      refine ⟨A', y.toNat, c', ?_, hr, by omega, hb, hk, hkc⟩
      rw [Int.toNat_of_nonneg (by omega), Int.toNat_of_nonneg hy]
  · have e : nx l x y err = ([], x, err) := by unfold nx; rw [if_pos he]
    rw [e]
    refine (next_err w A n c x y err he).mono ?_
    rintro e w' ⟨rfl, hb⟩
    exact ⟨none, 0, 0, rfl, ⟨rfl, fun h => absurd h (by omega)⟩, by omega, hb, by omega, by omega⟩

set_option maxRecDepth 100000 in
set_option maxHeartbeats 1600000 in
theorem tLong_any (w : World) (B : Nat) (A : Option Addr) (n c : Nat) (l : List UInt8) (x err : Int) (h : Rd w B A n l) (hB : B ≤ w.heap.size) (hx : x ≤ 9223372036854775807) (hc : n ≤ c) (hnm : (n : Int) ≤ 1000000) (hcm : (c : Int) ≤ 9223372036854775807) :
    Calls Try.prog 19 #[rv A n c x err] w fun e w' => e = .returned (.tuple #[.int .u32 ((beN (nx l x 4 err).1 : Nat)), rv A n c (nx l x 4 err).2.1 (nx l x 4 err).2.2]) ∧ Below w.heap.size w w' := by
  have H := Lib.hid h
  clear h
  have hN0 := fun (W : World) (hR : Rd W B A n l) (hBW : B ≤ W.heap.size) => next_any W B A n c l x 4 err hR hBW (by omega) hx hc hnm hcm
  obtain ⟨r, hr⟩ : ∃ r, r = nx l x 4 err := ⟨_, rfl⟩
  rw [← hr] at hN0 ⊢
  clear hr
  obtain ⟨bs, x', e'⟩ := r
  have HN := Lib.hid hN0
  clear hN0
  simp only
  go_enter Try.func19, Try.ntmps19
  go_wp2_with fail
  refine (HN.out _ (H.out.below ((((Below.refl _ _).alloc (Nat.le_refl _) _).alloc (by simp) _).mono hB)) (by simp; omega)).mono ?_
  intro e w1 hN
  obtain ⟨A', n', c', rfl, hR, hn', hb1, _⟩ := hN
  obtain ⟨hc1, hf1⟩ := bcells hb1
  have hz1 : w.heap.size + 1 < w1.heap.size := by
    have := hb1.size
    simp at this
    omega
  have HR := Lib.hid hR
  clear hR
  have hbl := beN_lt bs
  have hbl2 : bs.length ≤ 4 := by have := HR.out.1; simp only at this; omega
  have hbl3 : beN bs < 256 ^ 4 := Nat.lt_of_lt_of_le hbl (Nat.pow_le_pow_right (by omega) hbl2)
  have hbl4 : (beN bs : Int) < 4294967296 := by omega
  clear hbl hbl2 hbl3
  go_wp2_with fail
  have hBw : B ≤ w1.heap.size := by omega
  go_region_with (go_at_call 24; refine (join32_any _ B A' n' c' _ (HR.out.alloc hBw _).drew (by omega)).mono ?_; rintro e w2 ⟨rfl, rfl⟩)
  all_goals
    go_wp2
    refine bodyPost_ret (v := .tuple #[.int .u32 ((beN bs : Nat)), rv A n c x' e']) (by simp [results, Try.results19, go_sem, hc1, hz1]) rfl ⟨rfl, ?_⟩
    exact ((((((((Below.refl _ _).alloc (Nat.le_refl _) _).alloc (by simp) _).trans (hb1.mono (by simp; omega))).setCell (by simp) _).setCell (by simp) _).setCell (by simp) _).alloc (by simp; omega) _).drew

end Go.Proofs.Ytpenilbnhhcmiaa
