/- Contract of the reference's TakeSize. -/
import Derived.Test.YtacklmfplpgkdaaTakesR
namespace Go.Proofs.Ytacklmfplpgkdaa
open Go.RowKit

theorem nx_short {l : List UInt8} {x y : Int} (h : x < 0 ∨ (l.length : Int) - x < y) : nx l x y 0 = ([], x, 2) := by
  unfold nx; rw [if_neg (by simp), if_pos h]

theorem nx_one {l : List UInt8} {a : Nat} (h : a < l.length) : nx l (a : Int) 1 0 = ([l.getD a 0], (a : Int) + 1, 0) := by
  unfold nx
  rw [if_neg (by simp), if_neg (by omega)]
  show ((l.drop ((a : Int)).toNat).take 1, _, _) = _
  rw [take_one l _ (by omega)]
  rfl

theorem beN_one (b : UInt8) : beN [b] = b.toNat := by simp [beN]

theorem mul_fits {y U P : Nat} (hP : P = y % 128 * U) : (y : Int) % 128 * (U : Int) = (P : Int) := by
  rw [hP, Int.natCast_mul]; rfl

theorem pow128_le {j : Nat} (h : j ≤ 5) : 128 ^ j ≤ 34359738368 := Nat.le_trans (Nat.pow_le_pow_right (by omega) h) (by decide)

set_option maxRecDepth 100000 in
set_option maxHeartbeats 1600000 in
theorem rtSize_err (w : World) (A : Option Addr) (n c : Nat) (l : List UInt8) (x err most : Int) (he : err ≠ 0) :
    Calls Try.prog 33 #[rv A n c x err, .int .i64 most] w fun e w' => e = .returned (.tuple #[.int .i64 (sz l most x err).1, rv A n c (sz l most x err).2.1 (sz l most x err).2.2]) ∧ Below w.heap.size w w' := by
  have e : sz l most x err = (0, x, err) := by unfold sz; rw [if_pos he]
  rw [e]
  clear e
  have hb : (err == 0) = false := beq_eq_false_iff_ne.2 he
  have hb2 : (err != 0) = true := by rw [bne_iff_ne]; exact he
  go_enter Try.func33, Try.ntmps33
  go_wp2_with fail
  go_region
  all_goals
    go_wp2
    exact bodyPost_ret (v := .tuple #[.int .i64 0, rv A n c x err]) (by simp [results, Try.results33, go_sem]) rfl ⟨rfl, (((Below.refl _ _).alloc (Nat.le_refl _) _).alloc (by simp) _).drew⟩

set_option maxRecDepth 100000 in
set_option maxHeartbeats 3200000 in
theorem rtSize_ok (w : World) (B : Nat) (A : Option Addr) (n c : Nat) (l : List UInt8) (x most : Int) (h : Rd w B A n l) (hB : B ≤ w.heap.size) (hx : x ≤ 9223372036854775807) (hn : (n : Int) ≤ 1000000) :
    Calls Try.prog 33 #[rv A n c x 0, .int .i64 most] w fun e w' => e = .returned (.tuple #[.int .i64 (sz l most x 0).1, rv A n c (sz l most x 0).2.1 (sz l most x 0).2.2]) ∧ Below w.heap.size w w' := by
  have hlen := h.1
  have HLEN := Lib.hid hlen
  clear hlen
  have H := Lib.hid h
  clear h
  have HS := Lib.hid (SzRel.start l most x 0)
  obtain ⟨r, hr⟩ : ∃ r, r = sz l most x 0 := ⟨_, rfl⟩
  rw [← hr] at HS ⊢
  clear hr
  go_enter Try.func33, Try.ntmps33
  go_wp2_with fail
  go_loopw [6, 7, 8] (fun v u i wr => ∃ (j m U : Nat), j ≤ 5 ∧ i = .int .i64 j ∧ v = .int .i64 m ∧ u = .int .i64 U ∧ Hid (U = 128 ^ j) ∧ Hid (SzRel l most x r j m 0) ∧
      Blk wr w.heap.size 37 #[.slice A n c, .int .i64 x, .int .i64 0] ∧ Blk wr (w.heap.size + 1) 37 #[.slice none 0 0, .int .i64 0, .int .i64 0] ∧ Below w.heap.size w wr)
    (fun _ _ i _ => 5 - (intOf i).toNat)
  case atStart => exact ⟨0, 0, 1, by omega, rfl, rfl, rfl, Lib.hid (by simp), HS, (Blk.new w _ _).alloc _, Blk.new_at (w.alloc _) _ _ _ (by simp), ((Below.refl _ _).alloc (Nat.le_refl _) _).alloc (by simp) _⟩
  case round =>
    obtain ⟨j, m, U, hj, rfl, rfl, rfl, HU, HR, b2, b5, hbel⟩ := hrel
    have d20 := (b2).cell 0
    have d21 := (b2).cell 1
    have d22 := (b2).cell 2
    have d50 := (b5).cell 0
    have d51 := (b5).cell 1
    have d52 := (b5).cell 2
    have g20 := (b2).frozen 0
    have g21 := (b2).frozen 1
    have g22 := (b2).frozen 2
    have g50 := (b5).frozen 0
    have g51 := (b5).frozen 1
    have g52 := (b5).frozen 2
    simp only [List.getElem?_toArray, List.getElem?_cons_zero, List.getElem?_cons_succ] at d20 d21 d22 d50 d51 d52
    have hbs := hbel.size
    have B2 := Lib.hid b2
    have B5 := Lib.hid b5
    clear b2 b5
    have hUb : U ≤ 34359738368 := by rw [HU.out]; exact pow128_le hj
    have hmb : m < U := by have h9 := HR.out.1; rw [← HU.out] at h9; exact h9
    by_cases hlt : j < 5
    · by_cases hs : x < 0 ∨ (n : Int) < x ∨ (n : Int) - x < (j : Int) + 1
      · have hr : r = (0, x, 2) := by
          have h0 := HR.out.2.1
          have h9 := (SzRel.next HR.out hj (bs := []) (x' := x + j) (e' := 2) (by rw [nx_short (by rw [HLEN.out]; omega)]) rfl).1 (by omega)
          exact h9
        have HR5 := Lib.hid hr
        have HSS := Lib.hid hs
        clear hr hs
        go_wp2_with fail
        refine (lacks_yes _ A n c x _ 0 HSS.out hn hx).mono ?_
        rintro e w1 ⟨rfl, hb1⟩
        have hz1 := hb1.size
        have B21 := Lib.hid (B2.out.below hb1 B2.out.lt)
        have B51 := Lib.hid (B5.out.below hb1 B5.out.lt)
        have hbel1 := hbel.trans (hb1.mono hbs)
        clear d20 d21 d22 d50 d51 d52 g20 g21 g22 g50 g51 g52
        have d20 := (B21.out).cell 0
        have d21 := (B21.out).cell 1
        have d22 := (B21.out).cell 2
        have d50 := (B51.out).cell 0
        have d51 := (B51.out).cell 1
        have d52 := (B51.out).cell 2
        have g20 := (B21.out).frozen 0
        have g21 := (B21.out).frozen 1
        have g22 := (B21.out).frozen 2
        have g50 := (B51.out).frozen 0
        have g51 := (B51.out).frozen 1
        have g52 := (B51.out).frozen 2
        simp only [List.getElem?_toArray, List.getElem?_cons_zero, List.getElem?_cons_succ] at d20 d21 d22 d50 d51 d52
        go_wp2_with fail
        refine (fail_any _ _ _ _ _ _ _).mono ?_
        rintro e w2 ⟨rfl, hb2⟩
        have B52 := B51.out.below hb2 (by have := B51.out.lt; omega)
        have k50 := B52.cell 0
        have k51 := B52.cell 1
        have k52 := B52.cell 2
        have l50 := B52.frozen 0
        have l51 := B52.frozen 1
        have l52 := B52.frozen 2
        have HB52 := Lib.hid B52
        clear B52
        simp only [List.getElem?_toArray, List.getElem?_cons_zero, List.getElem?_cons_succ] at k50 k51 k52
        have hz2 := hb2.size
        go_wp2_with fail
        refine bodyPost_ret (v := .tuple #[.int .i64 0, rv A n c x 2]) (by simp [results, Try.results33, go_sem, k50, k51, k52]) rfl ⟨by rw [HR5.out], ?_⟩
        exact (((hbel1.trans (hb2.mono (by omega))).setCell (by simp) _).setCell (by simp) _).setCell (by simp) _
      · obtain ⟨a, rfl⟩ : ∃ a : Nat, x = (a : Int) := ⟨x.toNat, by omega⟩
        have haj : a + j < n := by omega
        have hal : a + j < l.length := by rw [HLEN.out]; exact haj
        have hs2 : (j : Int) + 1 ≤ (n : Int) - a := by omega
        have ha2 : (a : Int) ≤ n := by omega
        clear hs
        obtain ⟨v, hv⟩ : ∃ v : UInt8, v = l.getD (a + j) 0 := ⟨_, rfl⟩
        have hq : ([v], (a : Int) + (j : Int) + 1, (0 : Int)) = nx l ((a : Int) + (j : Int)) 1 0 := by
          have e := nx_one hal
          rw [show ((a + j : Nat) : Int) = (a : Int) + (j : Int) from by omega, ← hv] at e
          exact e.symm
        obtain ⟨_, _, hA, hB', hC, hD, hE⟩ := (SzRel.next HR.out hj hq (beN_one v).symm).2 rfl
        obtain ⟨ad, rfl, hab, hcell⟩ := H.out.2 (by omega)
        have hv2 := v.toNat_lt
        have hcv : w.cell? (ad.add (a + j)) = some (.int .u8 (v.toNat : Int)) := by
          rw [hcell (a + j) hal, hv]
          simp [List.getD, hal]
        have HCV := Lib.hid hcv
        obtain ⟨y, hy⟩ : ∃ y, y = v.toNat := ⟨_, rfl⟩
        rw [← hy] at hB' hC hD hE HCV hv2
        clear hcell hcv hq hA hy hv
        rw [← HU.out] at hC hD hE
        obtain ⟨P, hP⟩ : ∃ P, P = y % 128 * U := ⟨_, rfl⟩
        have hPb : P ≤ 4363686772736 := by rw [hP]; exact Nat.le_trans (Nat.mul_le_mul (show y % 128 ≤ 127 by omega) hUb) (by decide)
        rw [← hP] at hC hD hE
        have hpe : (y : Int) % 128 * (U : Int) = (P : Int) := mul_fits hP
        have hp0 : 0 ≤ (y : Int) % 128 * (U : Int) := by rw [hpe]; exact Int.natCast_nonneg _
        have hp1 : (y : Int) % 128 * (U : Int) ≤ 4363686772736 := by rw [hpe]; exact Int.ofNat_le.2 hPb
        have HPE := Lib.hid hpe
        clear hpe
        have HP := Lib.hid hP
        clear hP
        obtain ⟨M, hM⟩ : ∃ M, M = m + P := ⟨_, rfl⟩
        rw [← hM] at hC hD hE
        have HME : Hid ((m : Int) + (y : Int) % 128 * (U : Int) = (M : Int)) := by rw [hM, HPE.out, Int.natCast_add]; exact Lib.hid rfl
        have HM := Lib.hid hM
        clear hM
        have hB5 := Lib.hid (hB' hlt)
        have hC5 := Lib.hid (hC hlt)
        have hD5 := Lib.hid (hD hlt)
        have hE5 := Lib.hid (hE hlt)
        clear hB' hC hD hE
        go_wp2_with fail
        refine (lacks_no _ (some ad) n c a _ 0 (by omega) ha2 hs2 hn).mono ?_
        rintro e w1 ⟨rfl, hb1⟩
        have hz1 := hb1.size
        have B21 := Lib.hid (B2.out.below hb1 B2.out.lt)
        have B51 := Lib.hid (B5.out.below hb1 B5.out.lt)
        have hbel1 := hbel.trans (hb1.mono hbs)
        clear d20 d21 d22 d50 d51 d52 g20 g21 g22 g50 g51 g52
        have d20 := (B21.out).cell 0
        have d21 := (B21.out).cell 1
        have d22 := (B21.out).cell 2
        have d50 := (B51.out).cell 0
        have d51 := (B51.out).cell 1
        have d52 := (B51.out).cell 2
        have g20 := (B21.out).frozen 0
        have g21 := (B21.out).frozen 1
        have g22 := (B21.out).frozen 2
        have g50 := (B51.out).frozen 0
        have g51 := (B51.out).frozen 1
        have g52 := (B51.out).frozen 2
        simp only [List.getElem?_toArray, List.getElem?_cons_zero, List.getElem?_cons_succ] at d20 d21 d22 d50 d51 d52
        have hcy := (hbel1.cell (p := ad.add (a + j)) (by rw [blk_add]; omega)).trans HCV.out
        by_cases hv1 : y < 128
        · by_cases hz : y = 0 ∧ 0 < j
          · have HR5 := Lib.hid (hB5.out hv1 hz)
            have hy0 : ((y : Int) == 0) = true := beq_iff_eq.2 (by omega)
            have hj0 : 0 < (j : Int) := by omega
            clear hz
            go_wp2_with fail
            refine (fail_any _ _ _ _ _ _ _).mono ?_
            rintro e w2 ⟨rfl, hb2⟩
            have B52 := B51.out.below hb2 (by have := B51.out.lt; omega)
            have k50 := B52.cell 0
            have k51 := B52.cell 1
            have k52 := B52.cell 2
            have l50 := B52.frozen 0
            have l51 := B52.frozen 1
            have l52 := B52.frozen 2
            have HB52 := Lib.hid B52
            clear B52
            simp only [List.getElem?_toArray, List.getElem?_cons_zero, List.getElem?_cons_succ] at k50 k51 k52
            have hz2 := hb2.size
            go_wp2_with fail
            refine bodyPost_ret (v := .tuple #[.int .i64 0, rv (some ad) n c a 4]) (by simp [results, Try.results33, go_sem, k50, k51, k52]) rfl ⟨by rw [HR5.out], ?_⟩
            exact (((hbel1.trans (hb2.mono (by omega))).setCell (by simp) _).setCell (by simp) _).setCell (by simp) _
          · by_cases hmo : most < (M : Int)
            · have HR5 := Lib.hid (hC5.out hv1 hz hmo)
              have hmo2 : most < (m : Int) + (y : Int) % 128 * (U : Int) := by rw [HME.out]; exact hmo
              clear hmo
              by_cases hv0 : y = 0
              · have hy0 : ((y : Int) == 0) = true := beq_iff_eq.2 (by omega)
                have hj0 : ¬ 0 < (j : Int) := by omega
                clear hz hv0
                go_wp2_with fail
                refine (fail_any _ _ _ _ _ _ _).mono ?_
                rintro e w2 ⟨rfl, hb2⟩
                have B52 := B51.out.below hb2 (by have := B51.out.lt; omega)
                have k50 := B52.cell 0
                have k51 := B52.cell 1
                have k52 := B52.cell 2
                have l50 := B52.frozen 0
                have l51 := B52.frozen 1
                have l52 := B52.frozen 2
                have HB52 := Lib.hid B52
                clear B52
                simp only [List.getElem?_toArray, List.getElem?_cons_zero, List.getElem?_cons_succ] at k50 k51 k52
                have hz2 := hb2.size
                go_wp2_with fail
                refine bodyPost_ret (v := .tuple #[.int .i64 0, rv (some ad) n c a 5]) (by simp [results, Try.results33, go_sem, k50, k51, k52]) rfl ⟨by rw [HR5.out], ?_⟩
                exact (((hbel1.trans (hb2.mono (by omega))).setCell (by simp) _).setCell (by simp) _).setCell (by simp) _
              · have hy0 : ((y : Int) == 0) = false := beq_eq_false_iff_ne.2 (by omega)
                clear hz hv0
                go_wp2_with fail
                refine (fail_any _ _ _ _ _ _ _).mono ?_
                rintro e w2 ⟨rfl, hb2⟩
                have B52 := B51.out.below hb2 (by have := B51.out.lt; omega)
                have k50 := B52.cell 0
                have k51 := B52.cell 1
                have k52 := B52.cell 2
                have l50 := B52.frozen 0
                have l51 := B52.frozen 1
                have l52 := B52.frozen 2
                have HB52 := Lib.hid B52
                clear B52
                simp only [List.getElem?_toArray, List.getElem?_cons_zero, List.getElem?_cons_succ] at k50 k51 k52
                have hz2 := hb2.size
                go_wp2_with fail
                refine bodyPost_ret (v := .tuple #[.int .i64 0, rv (some ad) n c a 5]) (by simp [results, Try.results33, go_sem, k50, k51, k52]) rfl ⟨by rw [HR5.out], ?_⟩
                exact (((hbel1.trans (hb2.mono (by omega))).setCell (by simp) _).setCell (by simp) _).setCell (by simp) _
            · have HR5 := Lib.hid (hD5.out hv1 hz (by first | exact hmo | exact Int.not_lt.1 hmo))
              have hmo2 : ¬ most < (m : Int) + (y : Int) % 128 * (U : Int) := by rw [HME.out]; exact hmo
              clear hmo
              by_cases hv0 : y = 0
              · have hy0 : ((y : Int) == 0) = true := beq_iff_eq.2 (by omega)
                have hj0 : ¬ 0 < (j : Int) := by omega
                clear hz hv0
                go_wp2_with fail
                go_region
                all_goals
                  go_wp2
                  refine bodyPost_ret (v := .tuple #[.int .i64 ((m : Int) + (y : Int) % 128 * (U : Int)), rv (some ad) n c ((a : Int) + j + 1) 0]) (by simp [results, Try.results33, go_sem, d50, d51, d52]) rfl ⟨by rw [HR5.out, HME.out], ?_⟩
                  exact ((((hbel1.setCell (by simp) _).setCell (by simp) _).setCell (by simp) _).setCell (by simp) _).drew
              · have hy0 : ((y : Int) == 0) = false := beq_eq_false_iff_ne.2 (by omega)
                clear hz hv0
                go_wp2_with fail
                go_region
                all_goals
                  go_wp2
                  refine bodyPost_ret (v := .tuple #[.int .i64 ((m : Int) + (y : Int) % 128 * (U : Int)), rv (some ad) n c ((a : Int) + j + 1) 0]) (by simp [results, Try.results33, go_sem, d50, d51, d52]) rfl ⟨by rw [HR5.out, HME.out], ?_⟩
                  exact ((((hbel1.setCell (by simp) _).setCell (by simp) _).setCell (by simp) _).setCell (by simp) _).drew
        · have HR5 := Lib.hid (hE5.out (by omega))
          go_wp2_with fail
          go_roundw
          case rel => exact ⟨j + 1, M, U * 128, by omega, by go_num, by rw [HME.out], by go_num, Lib.hid (by rw [HU.out, Nat.pow_succ]), HR5, B21.out, B51.out, hbel1⟩
          case measure => simp [intOf]; omega
    · obtain rfl : j = 5 := by omega
      by_cases hs : x < 0 ∨ (n : Int) < x ∨ (n : Int) - x < 6
      · have hr : r = (0, x, 2) := by
          have h0 := HR.out.2.1
          have h9 := (SzRel.next HR.out hj (bs := []) (x' := x + (5 : Nat)) (e' := 2) (by rw [nx_short (by rw [HLEN.out]; omega)]) rfl).1 (by omega)
          exact h9
        have HR5 := Lib.hid hr
        have HSS := Lib.hid hs
        clear hr hs
        go_wp2_with fail
        refine (lacks_yes _ A n c x _ 0 HSS.out hn hx).mono ?_
        rintro e w1 ⟨rfl, hb1⟩
        have hz1 := hb1.size
        have B21 := Lib.hid (B2.out.below hb1 B2.out.lt)
        have B51 := Lib.hid (B5.out.below hb1 B5.out.lt)
        have hbel1 := hbel.trans (hb1.mono hbs)
        clear d20 d21 d22 d50 d51 d52 g20 g21 g22 g50 g51 g52
        have d20 := (B21.out).cell 0
        have d21 := (B21.out).cell 1
        have d22 := (B21.out).cell 2
        have d50 := (B51.out).cell 0
        have d51 := (B51.out).cell 1
        have d52 := (B51.out).cell 2
        have g20 := (B21.out).frozen 0
        have g21 := (B21.out).frozen 1
        have g22 := (B21.out).frozen 2
        have g50 := (B51.out).frozen 0
        have g51 := (B51.out).frozen 1
        have g52 := (B51.out).frozen 2
        simp only [List.getElem?_toArray, List.getElem?_cons_zero, List.getElem?_cons_succ] at d20 d21 d22 d50 d51 d52
        go_wp2_with fail
        refine (fail_any _ _ _ _ _ _ _).mono ?_
        rintro e w2 ⟨rfl, hb2⟩
        have B52 := B51.out.below hb2 (by have := B51.out.lt; omega)
        have k50 := B52.cell 0
        have k51 := B52.cell 1
        have k52 := B52.cell 2
        have l50 := B52.frozen 0
        have l51 := B52.frozen 1
        have l52 := B52.frozen 2
        have HB52 := Lib.hid B52
        clear B52
        simp only [List.getElem?_toArray, List.getElem?_cons_zero, List.getElem?_cons_succ] at k50 k51 k52
        have hz2 := hb2.size
        go_wp2_with fail
        refine bodyPost_ret (v := .tuple #[.int .i64 0, rv A n c x 2]) (by simp [results, Try.results33, go_sem, k50, k51, k52]) rfl ⟨by rw [HR5.out], ?_⟩
        exact (((hbel1.trans (hb2.mono (by omega))).setCell (by simp) _).setCell (by simp) _).setCell (by simp) _
      · have hr : r = (0, x, 4) := by
          have hal : x.toNat + 5 < l.length := by rw [HLEN.out]; omega
          have e := nx_one hal
          rw [show ((x.toNat + 5 : Nat) : Int) = x + (5 : Nat) from by omega] at e
          exact ((SzRel.next HR.out hj e.symm rfl).2 rfl).2.2.1 rfl
        have HR5 := Lib.hid hr
        have h0 : 0 ≤ x := by omega
        have h1 : x ≤ (n : Int) := by omega
        have h2 : 6 ≤ (n : Int) - x := by omega
        clear hr hs
        go_wp2_with fail
        refine (lacks_no _ A n c x _ 0 h0 h1 h2 hn).mono ?_
        rintro e w1 ⟨rfl, hb1⟩
        have hz1 := hb1.size
        have B21 := Lib.hid (B2.out.below hb1 B2.out.lt)
        have B51 := Lib.hid (B5.out.below hb1 B5.out.lt)
        have hbel1 := hbel.trans (hb1.mono hbs)
        clear d20 d21 d22 d50 d51 d52 g20 g21 g22 g50 g51 g52
        have d20 := (B21.out).cell 0
        have d21 := (B21.out).cell 1
        have d22 := (B21.out).cell 2
        have d50 := (B51.out).cell 0
        have d51 := (B51.out).cell 1
        have d52 := (B51.out).cell 2
        have g20 := (B21.out).frozen 0
        have g21 := (B21.out).frozen 1
        have g22 := (B21.out).frozen 2
        have g50 := (B51.out).frozen 0
        have g51 := (B51.out).frozen 1
        have g52 := (B51.out).frozen 2
        simp only [List.getElem?_toArray, List.getElem?_cons_zero, List.getElem?_cons_succ] at d20 d21 d22 d50 d51 d52
        go_wp2_with fail
        refine (fail_any _ _ _ _ _ _ _).mono ?_
        rintro e w2 ⟨rfl, hb2⟩
        have B52 := B51.out.below hb2 (by have := B51.out.lt; omega)
        have k50 := B52.cell 0
        have k51 := B52.cell 1
        have k52 := B52.cell 2
        have l50 := B52.frozen 0
        have l51 := B52.frozen 1
        have l52 := B52.frozen 2
        have HB52 := Lib.hid B52
        clear B52
        simp only [List.getElem?_toArray, List.getElem?_cons_zero, List.getElem?_cons_succ] at k50 k51 k52
        have hz2 := hb2.size
        go_wp2_with fail
        refine bodyPost_ret (v := .tuple #[.int .i64 0, rv A n c x 4]) (by simp [results, Try.results33, go_sem, k50, k51, k52]) rfl ⟨by rw [HR5.out], ?_⟩
        exact (((hbel1.trans (hb2.mono (by omega))).setCell (by simp) _).setCell (by simp) _).setCell (by simp) _

theorem rtSize_any (w : World) (B : Nat) (A : Option Addr) (n c : Nat) (l : List UInt8) (x err most : Int) (h : Rd w B A n l) (hB : B ≤ w.heap.size) (hx : x ≤ 9223372036854775807) (hn : (n : Int) ≤ 1000000) :
    Calls Try.prog 33 #[rv A n c x err, .int .i64 most] w fun e w' => e = .returned (.tuple #[.int .i64 (sz l most x err).1, rv A n c (sz l most x err).2.1 (sz l most x err).2.2]) ∧ Below w.heap.size w w' := by
  by_cases he : err = 0
  · subst he
    exact rtSize_ok w B A n c l x most h hB hx hn
  · exact rtSize_err w A n c l x err most he

end Go.Proofs.Ytacklmfplpgkdaa
