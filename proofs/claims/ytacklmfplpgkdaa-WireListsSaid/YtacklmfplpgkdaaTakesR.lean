/- Contracts of the reference's functions that take numbers off a reader. -/
import Derived.Test.YtacklmfplpgkdaaSize
namespace Go.Proofs.Ytacklmfplpgkdaa
open Go.RowKit

set_option maxRecDepth 100000 in
set_option maxHeartbeats 800000 in
theorem fail_any (w : World) (A : Option Addr) (n c : Nat) (a e0 e1 : Int) :
    Calls Try.prog 57 #[rv A n c a e0, .int .i64 e1] w fun e w' => e = .returned (rv A n c a e1) ∧ Below w.heap.size w w' := by
  go_enter Try.func57, Try.ntmps57
  go_wp2
  exact bodyPost_ret (v := rv A n c a e1) (by simp [results, Try.results57, go_sem]) rfl ⟨rfl, ((Below.refl _ _).alloc (Nat.le_refl _) _).alloc (by simp) _⟩

set_option maxRecDepth 100000 in
set_option maxHeartbeats 800000 in
theorem lacks_yes (w : World) (A : Option Addr) (n c : Nat) (x y err : Int) (hs : x < 0 ∨ (n : Int) < x ∨ (n : Int) - x < y) (hn : (n : Int) ≤ 1000000) (hx : x ≤ 9223372036854775807) :
    Calls Try.prog 56 #[rv A n c x err, .int .i64 y] w fun e w' => e = .returned (.bool true) ∧ Below w.heap.size w w' := by
  by_cases h0 : x < 0
  · go_enter Try.func56, Try.ntmps56
    go_wp2
    go_ret
    exact ⟨rfl, (Below.refl _ _).alloc (Nat.le_refl _) _⟩
  · by_cases h1 : (n : Int) < x
    · go_enter Try.func56, Try.ntmps56
      go_wp2
      go_ret
      exact ⟨rfl, (Below.refl _ _).alloc (Nat.le_refl _) _⟩
    · have h2 : (n : Int) - x < y := by omega
      clear hs
      go_enter Try.func56, Try.ntmps56
      go_wp2
      go_ret
      exact ⟨rfl, (Below.refl _ _).alloc (Nat.le_refl _) _⟩

set_option maxRecDepth 100000 in
set_option maxHeartbeats 800000 in
theorem lacks_no (w : World) (A : Option Addr) (n c : Nat) (x y err : Int) (h0 : 0 ≤ x) (h1 : x ≤ n) (h2 : y ≤ (n : Int) - x) (hn : (n : Int) ≤ 1000000) :
    Calls Try.prog 56 #[rv A n c x err, .int .i64 y] w fun e w' => e = .returned (.bool false) ∧ Below w.heap.size w w' := by
  go_enter Try.func56, Try.ntmps56
  go_wp2
  go_ret
  exact ⟨by simp; omega, (Below.refl _ _).alloc (Nat.le_refl _) _⟩

set_option maxRecDepth 100000 in
set_option maxHeartbeats 1600000 in
theorem take_err (w : World) (A : Option Addr) (n c : Nat) (x y err : Int) (he : err ≠ 0) :
    Calls Try.prog 50 #[rv A n c x err, .int .i64 y] w fun e w' => e = .returned (.tuple #[.int .u64 0, rv A n c x err]) ∧ Below w.heap.size w w' := by
  have hb : (err == 0) = false := beq_eq_false_iff_ne.2 he
  have hb2 : (err != 0) = true := by rw [bne_iff_ne]; exact he
  go_enter Try.func50, Try.ntmps50
  go_wp2_with fail
  go_region
  all_goals
    go_wp2
    exact bodyPost_ret (v := .tuple #[.int .u64 0, rv A n c x err]) (by simp [results, Try.results50, go_sem]) rfl ⟨rfl, (((Below.refl _ _).alloc (Nat.le_refl _) _).alloc (by simp) _).drew⟩

set_option maxRecDepth 100000 in
set_option maxHeartbeats 1600000 in
theorem take_short (w : World) (A : Option Addr) (n c : Nat) (x y : Int) (hs : x < 0 ∨ (n : Int) < x ∨ (n : Int) - x < y) (hn : (n : Int) ≤ 1000000) (hx : x ≤ 9223372036854775807) :
    Calls Try.prog 50 #[rv A n c x 0, .int .i64 y] w fun e w' => e = .returned (.tuple #[.int .u64 0, rv A n c x 2]) ∧ Below w.heap.size w w' := by
  have HS := Lib.hid hs
  clear hs
  go_enter Try.func50, Try.ntmps50
  go_wp2_with fail
  refine (lacks_yes _ A n c x y 0 HS.out hn hx).mono ?_
  rintro e w1 ⟨rfl, hb1⟩
  obtain ⟨hc1, hf1⟩ := bcells hb1
  have hz1 := hb1.size
  simp only [World.size_alloc] at hz1
  go_wp2_with fail
  refine (fail_any _ _ _ _ _ _ _).mono ?_
  rintro e w2 ⟨rfl, hb2⟩
  have b5 := ((Blk.new_at (w.alloc _) 37 #[.slice none 0 0, .int .i64 0, .int .i64 0] (w.heap.size + 1) (by simp)).below hb1 (by simp)).below hb2 (by omega)
  have k0 := b5.cell 0
  have k1 := b5.cell 1
  have k2 := b5.cell 2
  have f0 := b5.frozen 0
  have f1 := b5.frozen 1
  have f2 := b5.frozen 2
  simp only [List.getElem?_toArray, List.getElem?_cons_zero, List.getElem?_cons_succ] at k0 k1 k2
  clear b5 hc1 hf1
  go_wp2_with fail
  refine bodyPost_ret (v := .tuple #[.int .u64 0, rv A n c x 2]) (by simp [results, Try.results50, go_sem, k0, k1, k2]) rfl ⟨rfl, ?_⟩
  exact ((((((Below.refl _ _).alloc (Nat.le_refl _) _).alloc (by simp) _).trans (hb1.mono (by simp; omega))).trans (hb2.mono (by omega))).setCell (by simp) _ |>.setCell (by simp) _).setCell (by simp) _

set_option maxRecDepth 100000 in
set_option maxHeartbeats 1600000 in
theorem take_ok (w : World) (B : Nat) (A : Option Addr) (n c : Nat) (l : List UInt8) (a k : Nat) (x y : Int) (hx : x = (a : Int)) (hy : y = (k : Int)) (h : Rd w B A n l) (hB : B ≤ w.heap.size) (hak : a + k ≤ n) (hk : k ≤ 8) (hn : (n : Int) ≤ 1000000) :
    Calls Try.prog 50 #[rv A n c x 0, .int .i64 y] w fun e w' => e = .returned (.tuple #[.int .u64 (beN ((l.drop a).take k)), rv A n c ((a : Int) + k) 0]) ∧ Below w.heap.size w w' := by
  subst hx hy
  have H := Lib.hid h
  clear h
  go_enter Try.func50, Try.ntmps50
  go_wp2_with fail
  refine (lacks_no _ A n c a k 0 (by omega) (by omega) (by omega) hn).mono ?_
  rintro e w1 ⟨rfl, hb1⟩
  have hz1 := hb1.size
  simp only [World.size_alloc] at hz1
  have b2 := ((Blk.new w 37 #[.slice A n c, .int .i64 (a : Int), .int .i64 0]).alloc (.cells #[.slice none 0 0, .int .i64 0, .int .i64 0] 37)).below hb1 (by simp; omega)
  have b5 := (Blk.new_at (w.alloc (.cells #[.slice A n c, .int .i64 (a : Int), .int .i64 0] 37)) 37 #[.slice none 0 0, .int .i64 0, .int .i64 0] (w.heap.size + 1) (by simp)).below hb1 (by simp)
  have c20 := b2.cell 0
  have c21 := b2.cell 1
  have c22 := b2.cell 2
  have c50 := b5.cell 0
  have c51 := b5.cell 1
  have c52 := b5.cell 2
  have g20 := b2.frozen 0
  have g21 := b2.frozen 1
  have g22 := b2.frozen 2
  have f50 := b5.frozen 0
  have f51 := b5.frozen 1
  have f52 := b5.frozen 2
  simp only [List.getElem?_toArray, List.getElem?_cons_zero, List.getElem?_cons_succ] at c20 c21 c22 c50 c51 c52
  have HB2 := Lib.hid b2
  have HB5 := Lib.hid b5
  have hbel0 : Below w.heap.size w w1 := (((Below.refl _ _).alloc (Nat.le_refl _) _).alloc (by simp) _).trans (hb1.mono (by simp; omega))
  have HBEL := Lib.hid hbel0
  clear b2 b5 hb1 hbel0
  go_wp2_with fail
  go_loop [6, 7] (fun v i => ∃ (j : Nat) (t : Nat), j ≤ k ∧ i = .int .i64 j ∧ v = .int .u64 t ∧ Hid (t = beN ((l.drop a).take j))) (fun _ i => k - (intOf i).toNat)
  case atStart => exact ⟨0, 0, Nat.zero_le _, rfl, rfl, rfl⟩
  case round =>
    obtain ⟨j, t, hj, rfl, rfl, HT⟩ := hrel
    by_cases hlt : j < k
    · have ht : t < 72057594037927936 := by
        have h9 := beN_take_lt (l.drop a) j 7 (by omega)
        rw [← HT.out] at h9
        omega
      obtain ⟨ad, rfl, hab, hcell⟩ := H.out.2 (by omega)
      have hjl : a + j < l.length := by rw [H.out.1]; omega
      have hc := (HBEL.out.cell (p := ad.add (a + j)) (by rw [blk_add]; omega)).trans (hcell (a + j) hjl)
      clear hcell
      obtain ⟨b, hb⟩ : ∃ b, b = l[a + j] := ⟨_, rfl⟩
      rw [← hb] at hc
      have hb2 := b.toNat_lt
      have HB := Lib.hid hb
      clear hb
      go_wp2_with fail
      go_round
      case rel =>
        refine ⟨j + 1, t * 256 + b.toNat, by omega, by go_num, by go_num, ?_⟩
        show t * 256 + b.toNat = beN ((l.drop a).take (j + 1))
        rw [beN_take (l.drop a) j (by rw [List.length_drop]; omega), HT.out, HB.out]
        simp
      case measure => simp [intOf]; omega
    · have e : beN ((l.drop a).take k) = t := by rw [HT.out, show j = k from by omega]
      have HE := Lib.hid e
      clear e
      go_wp2_with fail
      go_region
      all_goals
        go_wp2
        refine bodyPost_ret (v := .tuple #[.int .u64 t, rv A n c ((a : Int) + k) 0]) (by simp [results, Try.results50, go_sem, c50, c51, c52]) rfl ⟨by rw [HE.out], ?_⟩
        exact ((((HBEL.out.setCell (by simp) _).setCell (by simp) _).setCell (by simp) _).setCell (by simp) _).drew

theorem take_any (w : World) (B : Nat) (A : Option Addr) (n c : Nat) (l : List UInt8) (x y err : Int) (h : Rd w B A n l) (hB : B ≤ w.heap.size) (hy : 0 < y) (hy8 : y ≤ 8) (hx : x ≤ 9223372036854775807) (hn : (n : Int) ≤ 1000000) :
    Calls Try.prog 50 #[rv A n c x err, .int .i64 y] w fun e w' => e = .returned (.tuple #[.int .u64 (beN (nx l x y err).1), rv A n c (nx l x y err).2.1 (nx l x y err).2.2]) ∧ Below w.heap.size w w' := by
  have hl := h.1
  by_cases he : err = 0
  · subst he
    by_cases hs : x < 0 ∨ (n : Int) - x < y
    · have e : nx l x y 0 = ([], x, 2) := by unfold nx; rw [if_neg (by simp), if_pos (by rw [hl]; exact hs)]
      rw [e]
      exact take_short w A n c x y (by omega) hn hx
    · have e : nx l x y 0 = ((l.drop x.toNat).take y.toNat, x + y, 0) := by unfold nx; rw [if_neg (by simp), if_neg (by rw [hl]; exact hs)]
      rw [e]
      refine (take_ok w B A n c l x.toNat y.toNat x y (by omega) (by omega) h hB (by omega) (by omega) hn).mono ?_
      rintro e w' ⟨rfl, hb⟩
      refine ⟨?_, hb⟩
      rw [Int.toNat_of_nonneg (by omega), Int.toNat_of_nonneg (by omega)]
  · have e : nx l x y err = ([], x, err) := by unfold nx; rw [if_pos he]
    rw [e]
    exact take_err w A n c x y err he

set_option maxRecDepth 100000 in
set_option maxHeartbeats 1600000 in
theorem rtByte_any (w : World) (B : Nat) (A : Option Addr) (n c : Nat) (l : List UInt8) (x err : Int) (h : Rd w B A n l) (hB : B ≤ w.heap.size) (hx : x ≤ 9223372036854775807) (hn : (n : Int) ≤ 1000000) :
    Calls Try.prog 25 #[rv A n c x err] w fun e w' => e = .returned (.tuple #[.int .i64 ((beN (nx l x 1 err).1 : Nat)), rv A n c (nx l x 1 err).2.1 (nx l x 1 err).2.2]) ∧ Below w.heap.size w w' := by
  have H := Lib.hid h
  clear h
  have hN0 := fun (W : World) (hR : Rd W B A n l) (hBW : B ≤ W.heap.size) => take_any W B A n c l x 1 err hR hBW (by omega) (by omega) hx hn
  have hlen : (nx l x 1 err).1.length ≤ 1 := by
    unfold nx
    split
    · simp
    · split
      · simp
      · simp only [List.length_take]; omega
  obtain ⟨r, hr⟩ : ∃ r, r = nx l x 1 err := ⟨_, rfl⟩
  rw [← hr] at hN0 hlen ⊢
  clear hr
  obtain ⟨bs, x', e'⟩ := r
  simp only at hlen hN0 ⊢
  have HN := Lib.hid hN0
  clear hN0
  have hbl := beN_lt bs
  have hbl3 : beN bs < 256 ^ 1 := Nat.lt_of_lt_of_le hbl (Nat.pow_le_pow_right (by omega) hlen)
  have hbl4 : (beN bs : Int) < 256 := by omega
  clear hbl hlen hbl3
  go_enter Try.func25, Try.ntmps25
  go_wp2_with fail
  refine (HN.out _ (H.out.below ((((Below.refl _ _).alloc (Nat.le_refl _) _).alloc (by simp) _).mono hB)) (by simp; omega)).mono ?_
  rintro e w1 ⟨rfl, hb1⟩
  obtain ⟨hc1, hf1⟩ := bcells hb1
  have hz1 : w.heap.size + 1 < w1.heap.size := by
    have := hb1.size
    simp at this
    omega
  go_wp2_with fail
  go_region
  all_goals
    go_wp2
    refine bodyPost_ret (v := .tuple #[.int .i64 ((beN bs : Nat)), rv A n c x' e']) (by simp [results, Try.results25, go_sem, hc1, hz1]) rfl ⟨rfl, ?_⟩
    exact ((((((((Below.refl _ _).alloc (Nat.le_refl _) _).alloc (by simp) _).trans (hb1.mono (by simp; omega))).setCell (by simp) _).setCell (by simp) _).setCell (by simp) _).alloc (by simp; omega) _).drew

set_option maxRecDepth 100000 in
set_option maxHeartbeats 1600000 in
theorem rtWord_any (w : World) (B : Nat) (A : Option Addr) (n c : Nat) (l : List UInt8) (x err : Int) (h : Rd w B A n l) (hB : B ≤ w.heap.size) (hx : x ≤ 9223372036854775807) (hn : (n : Int) ≤ 1000000) :
    Calls Try.prog 27 #[rv A n c x err] w fun e w' => e = .returned (.tuple #[.int .i64 (w16 (beN (nx l x 2 err).1 : Nat)), rv A n c (nx l x 2 err).2.1 (nx l x 2 err).2.2]) ∧ Below w.heap.size w w' := by
  have H := Lib.hid h
  clear h
  have hN0 := fun (W : World) (hR : Rd W B A n l) (hBW : B ≤ W.heap.size) => take_any W B A n c l x 2 err hR hBW (by omega) (by omega) hx hn
  have hlen : (nx l x 2 err).1.length ≤ 2 := by
    unfold nx
    split
    · simp
    · split
      · simp
      · simp only [List.length_take]; omega
  obtain ⟨r, hr⟩ : ∃ r, r = nx l x 2 err := ⟨_, rfl⟩
  rw [← hr] at hN0 hlen ⊢
  clear hr
  obtain ⟨bs, x', e'⟩ := r
  simp only at hlen hN0 ⊢
  have HN := Lib.hid hN0
  clear hN0
  have hbl := beN_lt bs
  have hbl3 : beN bs < 256 ^ 2 := Nat.lt_of_lt_of_le hbl (Nat.pow_le_pow_right (by omega) hlen)
  have hbl4 : (beN bs : Int) < 65536 := by omega
  clear hbl hlen hbl3
  go_enter Try.func27, Try.ntmps27
  go_wp2_with fail
  refine (HN.out _ (H.out.below ((((Below.refl _ _).alloc (Nat.le_refl _) _).alloc (by simp) _).mono hB)) (by simp; omega)).mono ?_
  rintro e w1 ⟨rfl, hb1⟩
  obtain ⟨hc1, hf1⟩ := bcells hb1
  have hz1 : w.heap.size + 1 < w1.heap.size := by
    have := hb1.size
    simp at this
    omega
  go_wp2_with fail
  have hwr : IntKind.i64.wrap (beN bs : Int) = (beN bs : Int) := IntWalk.i64_in _ (by omega)
  go_region_with (go_at_call 42; refine (rWrap_any _ _ (by omega) (by omega)).mono ?_; rintro e w2 ⟨rfl, rfl⟩)
  all_goals
    go_wp2
    refine bodyPost_ret (v := .tuple #[.int .i64 (w16 (beN bs : Nat)), rv A n c x' e']) (by simp [results, Try.results27, go_sem, hc1, hz1]) rfl ⟨rfl, ?_⟩
    exact ((((((((Below.refl _ _).alloc (Nat.le_refl _) _).alloc (by simp) _).trans (hb1.mono (by simp; omega))).setCell (by simp) _).setCell (by simp) _).setCell (by simp) _).alloc (by simp; omega) _).drew

set_option maxRecDepth 100000 in
set_option maxHeartbeats 1600000 in
theorem rtLong_any (w : World) (B : Nat) (A : Option Addr) (n c : Nat) (l : List UInt8) (x err : Int) (h : Rd w B A n l) (hB : B ≤ w.heap.size) (hx : x ≤ 9223372036854775807) (hn : (n : Int) ≤ 1000000) :
    Calls Try.prog 29 #[rv A n c x err] w fun e w' => e = .returned (.tuple #[.int .u32 ((beN (nx l x 4 err).1 : Nat)), rv A n c (nx l x 4 err).2.1 (nx l x 4 err).2.2]) ∧ Below w.heap.size w w' := by
  have H := Lib.hid h
  clear h
  have hN0 := fun (W : World) (hR : Rd W B A n l) (hBW : B ≤ W.heap.size) => take_any W B A n c l x 4 err hR hBW (by omega) (by omega) hx hn
  have hlen : (nx l x 4 err).1.length ≤ 4 := by
    unfold nx
    split
    · simp
    · split
      · simp
      · simp only [List.length_take]; omega
  obtain ⟨r, hr⟩ : ∃ r, r = nx l x 4 err := ⟨_, rfl⟩
  rw [← hr] at hN0 hlen ⊢
  clear hr
  obtain ⟨bs, x', e'⟩ := r
  simp only at hlen hN0 ⊢
  have HN := Lib.hid hN0
  clear hN0
  have hbl := beN_lt bs
  have hbl3 : beN bs < 256 ^ 4 := Nat.lt_of_lt_of_le hbl (Nat.pow_le_pow_right (by omega) hlen)
  have hbl4 : (beN bs : Int) < 4294967296 := by omega
  clear hbl hlen hbl3
  go_enter Try.func29, Try.ntmps29
  go_wp2_with fail
  refine (HN.out _ (H.out.below ((((Below.refl _ _).alloc (Nat.le_refl _) _).alloc (by simp) _).mono hB)) (by simp; omega)).mono ?_
  rintro e w1 ⟨rfl, hb1⟩
  obtain ⟨hc1, hf1⟩ := bcells hb1
  have hz1 : w.heap.size + 1 < w1.heap.size := by
    have := hb1.size
    simp at this
    omega
  go_wp2_with fail
  go_region
  all_goals
    go_wp2
    refine bodyPost_ret (v := .tuple #[.int .u32 ((beN bs : Nat)), rv A n c x' e']) (by simp [results, Try.results29, go_sem, hc1, hz1]) rfl ⟨rfl, ?_⟩
    exact ((((((((Below.refl _ _).alloc (Nat.le_refl _) _).alloc (by simp) _).trans (hb1.mono (by simp; omega))).setCell (by simp) _).setCell (by simp) _).setCell (by simp) _).alloc (by simp; omega) _).drew

set_option maxRecDepth 100000 in
set_option maxHeartbeats 1600000 in
theorem rtHuge_any (w : World) (B : Nat) (A : Option Addr) (n c : Nat) (l : List UInt8) (x err : Int) (h : Rd w B A n l) (hB : B ≤ w.heap.size) (hx : x ≤ 9223372036854775807) (hn : (n : Int) ≤ 1000000) :
    Calls Try.prog 31 #[rv A n c x err] w fun e w' => e = .returned (.tuple #[.int .u64 ((beN (nx l x 8 err).1 : Nat)), rv A n c (nx l x 8 err).2.1 (nx l x 8 err).2.2]) ∧ Below w.heap.size w w' := by
  have H := Lib.hid h
  clear h
  have hN0 := fun (W : World) (hR : Rd W B A n l) (hBW : B ≤ W.heap.size) => take_any W B A n c l x 8 err hR hBW (by omega) (by omega) hx hn
  have hlen : (nx l x 8 err).1.length ≤ 8 := by
    unfold nx
    split
    · simp
    · split
      · simp
      · simp only [List.length_take]; omega
  obtain ⟨r, hr⟩ : ∃ r, r = nx l x 8 err := ⟨_, rfl⟩
  rw [← hr] at hN0 hlen ⊢
  clear hr
  obtain ⟨bs, x', e'⟩ := r
  simp only at hlen hN0 ⊢
  have HN := Lib.hid hN0
  clear hN0
  have hbl := beN_lt bs
  have hbl3 : beN bs < 256 ^ 8 := Nat.lt_of_lt_of_le hbl (Nat.pow_le_pow_right (by omega) hlen)
  have hbl4 : (beN bs : Int) < 18446744073709551616 := by omega
  clear hbl hlen hbl3
  go_enter Try.func31, Try.ntmps31
  go_wp2_with fail
  refine (HN.out _ (H.out.below ((((Below.refl _ _).alloc (Nat.le_refl _) _).alloc (by simp) _).mono hB)) (by simp; omega)).mono ?_
  rintro e w1 ⟨rfl, hb1⟩
  obtain ⟨hc1, hf1⟩ := bcells hb1
  have hz1 : w.heap.size + 1 < w1.heap.size := by
    have := hb1.size
    simp at this
    omega
  go_wp2_with fail
  go_region
  all_goals
    go_wp2
    refine bodyPost_ret (v := .tuple #[.int .u64 ((beN bs : Nat)), rv A n c x' e']) (by simp [results, Try.results31, go_sem, hc1, hz1]) rfl ⟨rfl, ?_⟩
    exact ((((((((Below.refl _ _).alloc (Nat.le_refl _) _).alloc (by simp) _).trans (hb1.mono (by simp; omega))).setCell (by simp) _).setCell (by simp) _).setCell (by simp) _).alloc (by simp; omega) _).drew

end Go.Proofs.Ytacklmfplpgkdaa
