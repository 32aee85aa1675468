/- Contracts of alpha's codeAt, checkPadding, Unpack. -/
import Derived.Test.YtpfkkmjodhpkoaaDoorAlpR
import Derived.Laws.BitsLemmas
import Derived.Laws.BitsAllLaws
namespace Go.Proofs.YtpfkkmjodhpkoaaDoor
open Go.RowKit
set_option linter.unusedVariables false

theorem i64_nat (n : Nat) (h : n < 9223372036854775808) : IntKind.i64.wrap (n : Int) = n := IntWalk.i64_in _ (by omega)

theorem i64_and_nat (a b : Nat) (ha : a < 2 ^ 63) (hb : b < 2 ^ 63) : bits .and .i64 (a : Int) (b : Int) = ((a &&& b : Nat) : Int) :=
  (bits_nat .i64 63 (by decide) (fun n h0 h1 => IntWalk.i64_in n (by omega)) a b ha hb).1
theorem i64_or_nat (a b : Nat) (ha : a < 2 ^ 63) (hb : b < 2 ^ 63) : bits .or .i64 (a : Int) (b : Int) = ((a ||| b : Nat) : Int) :=
  (bits_nat .i64 63 (by decide) (fun n h0 h1 => IntWalk.i64_in n (by omega)) a b ha hb).2

theorem w64_nat (n : Nat) (h : n < 9223372036854775808) : wrap64 (n : Int) = n := by unfold wrap64; omega

theorem code_bit (x y d : Nat) (hx : x < 32) (hy : y < 256) : bits .or .i64 ((x : Int) * 2) (bits .and .i64 (wrap64 ((y : Int) / 2 ^ d)) 1) = ((2 * x + y / 2 ^ d % 2 : Nat) : Int) := by
  have h1 : ((y : Int) / 2 ^ d) = ((y / 2 ^ d : Nat) : Int) := by rw [Int.natCast_ediv, Int.natCast_pow]; rfl
  have h2 : y / 2 ^ d ≤ y := Nat.div_le_self _ _
  have h3 := i64_and_nat (y / 2 ^ d) 1 (by omega) (by omega)
  rw [nat_mask1] at h3
  have h4 := i64_or_nat (2 * x) (y / 2 ^ d % 2) (by omega) (by omega)
  rw [nat_join 1 (2 * x) (y / 2 ^ d % 2) (by omega) (by omega)] at h4
  rw [h1, w64_nat _ (by omega), show (1 : Int) = ((1 : Nat) : Int) from rfl, h3, show (x : Int) * 2 = ((2 * x : Nat) : Int) from by omega, h4]

set_option maxRecDepth 100000 in
set_option maxHeartbeats 1600000 in
theorem codeAt_any (w : World) (B : Nat) (A : Option Addr) (n c a : Nat) (l : List UInt8) (h : Rd w B A n l) (ha : a + 5 ≤ 8 * n) (hn : (n : Int) ≤ 1000000) :
    Calls Tryd.prog 55 #[.slice A n c, .int .i64 a] w fun e w' => e = .returned (.int .i64 (num2 (((unb l).drop a).take 5) : Nat)) ∧ w = w' := by
  obtain ⟨ad, rfl, _, hcell⟩ := h.2 (by omega)
  have HCL := Lib.hid hcell
  have HL := Lib.hid h.1
  have hul : (unb l).length = 8 * n := by rw [unb_len, h.1]
  have HU := Lib.hid hul
  clear hcell h hul
  go_enter Tryd.func55, Tryd.ntmps55
  go_wp2_with fail
  go_loop [5, 6] (fun v i => ∃ (q x : Nat), a ≤ q ∧ q ≤ a + 5 ∧ x < 32 ∧ i = .int .i64 q ∧ v = .int .i64 x ∧ Hid (x = num2 (((unb l).drop a).take (q - a)))) (fun _ i => a + 5 - (intOf i).toNat)
  case atStart => exact ⟨a, 0, by omega, by omega, by omega, rfl, rfl, Lib.hid (by rw [Nat.sub_self]; rfl)⟩
  case round =>
    obtain ⟨q, x, hqa, hqb, hx, rfl, rfl, HX⟩ := hrel
    by_cases hlt : q < a + 5
    · have hq8 : q / 8 < l.length := by have := HL.out; omega
      have hc := HCL.out (q / 8) hq8
      have hbit := unb_get l q (by have := HL.out; omega)
      obtain ⟨y, hy⟩ : ∃ y, y = l[q / 8]'hq8 := ⟨_, rfl⟩
      have hy2 : l.getD (q / 8) 0 = y := by rw [hy]; simp [List.getD, hq8]
      rw [← hy] at hc
      rw [hy2] at hbit
      have HBIT := Lib.hid hbit
      have hq8n : q < 8 * n := by omega
      clear hy hy2 hbit
      go_wp2_with fail
      go_round
      case rel =>
        have hb2 : y.toNat / 2 ^ (7 - q % 8) % 2 < 2 := Nat.mod_lt _ (by decide)
        have hul := HU.out
        have hx2 : 2 * x + y.toNat / 2 ^ (7 - q % 8) % 2 = num2 (((unb l).drop a).take (q + 1 - a)) := by
          have hqu : q < (unb l).length := by omega
          rw [show q + 1 - a = (q - a) + 1 from by omega, List.take_succ_eq_append_getElem (by rw [List.length_drop]; omega), num2_snoc, ← HX.out, List.getElem_drop, ← HBIT.out]
          have e : a + (q - a) = q := by omega
          simp [List.getD, e, hqu]
        have hx3 := num2_lt (q + 1 - a) (((unb l).drop a).take (q + 1 - a)) (by rw [List.length_take, List.length_drop]; omega) (fun z hz => isBits_unb l z (List.mem_of_mem_drop (List.mem_of_mem_take hz)))
        have hx4 : 2 ^ (q + 1 - a) ≤ 2 ^ 5 := Nat.pow_le_pow_right (by decide) (by omega)
        exact ⟨q + 1, _, by omega, by omega, by rw [← hx2] at hx3; omega, by go_num, congrArg (Value.int .i64) (code_bit x y.toNat (7 - q % 8) hx y.toNat_lt), Lib.hid hx2⟩
      case measure => simp [intOf]; omega
    · obtain rfl : q = a + 5 := by omega
      go_wp2_with fail
      go_ret
      exact ⟨ret_int (by rw [HX.out, show a + 5 - a = 5 from by omega]), rfl⟩

theorem low_mask (y : UInt8) (r : Nat) (hr : r < 8) : bits .and .u8 (y.toNat : Int) ((2 ^ r - 1) % 256) = ((y.toNat % 2 ^ r : Nat) : Int) := by
  have hy := y.toNat_lt
  have h := u8_and_nat y.toNat (2 ^ r - 1) hy (by rcases (by omega : r = 0 ∨ r = 1 ∨ r = 2 ∨ r = 3 ∨ r = 4 ∨ r = 5 ∨ r = 6 ∨ r = 7) with rfl | rfl | rfl | rfl | rfl | rfl | rfl | rfl <;> decide)
  rw [Nat.and_two_pow_sub_one_eq_mod] at h
  rw [← h]
  congr 1
  rcases (by omega : r = 0 ∨ r = 1 ∨ r = 2 ∨ r = 3 ∨ r = 4 ∨ r = 5 ∨ r = 6 ∨ r = 7) with rfl | rfl | rfl | rfl | rfl | rfl | rfl | rfl <;> rfl

/-- what the padding comes to -/
def padE (l : List UInt8) (e : Nat) : Int := if 8 ≤ 8 * l.length - e then 3 else if ((unb l).drop e).any (fun x => x == 1) then 4 else 0

theorem low_any (c : UInt8) (r : Nat) (hr : r < 8) : ((bits8 c).drop (8 - r)).any (fun x => x == 1) = decide (c.toNat % 2 ^ r ≠ 0) := by
  have hc := c.toNat_lt
  unfold bits8
  generalize c.toNat = n at *
  rw [Bool.eq_iff_iff]
  rcases (by omega : r = 0 ∨ r = 1 ∨ r = 2 ∨ r = 3 ∨ r = 4 ∨ r = 5 ∨ r = 6 ∨ r = 7) with rfl | rfl | rfl | rfl | rfl | rfl | rfl | rfl <;> simp <;> omega

theorem pad_any {l : List UInt8} {j : Nat} (hj : l.length = j + 1) {r : Nat} (hr : r < 8) : ((unb l).drop (8 * (j + 1) - r)).any (fun x => x == 1) = decide ((l.getD j 0).toNat % 2 ^ r ≠ 0) := by
  have hne : l ≠ [] := by rintro rfl; simp at hj
  have e := List.dropLast_concat_getLast hne
  have hg : l.getD j 0 = l.getLast hne := by
    rw [List.getLast_eq_getElem]
    simp [List.getD, hj]
  have hd : (unb l.dropLast).length = 8 * j := by rw [unb_len, List.length_dropLast, hj]; omega
  rw [hg, ← low_any _ r hr]
  conv => lhs; rw [← e, unb_append, unb_cons, unb_nil, List.append_nil]
  rw [List.drop_append, hd, List.drop_of_length_le (by rw [hd]; omega), List.nil_append]
  congr 2
  omega

set_option maxRecDepth 100000 in
set_option maxHeartbeats 1600000 in
theorem checkPadding_any (w : World) (B : Nat) (A : Option Addr) (n c e : Nat) (l : List UInt8) (h : Rd w B A n l) (he0 : 0 < e) (he : e ≤ 8 * n) (hn : (n : Int) ≤ 1000000) :
    Calls Tryd.prog 56 #[.slice A n c, .int .i64 e] w fun en w' => en = .returned (.int .i64 (padE l e)) ∧ Below w.heap.size w w' := by
  obtain ⟨ad, rfl, _, hcell⟩ := h.2 (by omega)
  have hl := h.1
  obtain ⟨j, hj⟩ : ∃ j, j = (e - 1) / 8 := ⟨_, rfl⟩
  obtain ⟨r, hr⟩ : ∃ r, r = 8 * (j + 1) - e := ⟨_, rfl⟩
  have hr8 : r < 8 := by omega
  have hu : ((e : Int) + 8 - 1) / 8 = (j : Int) + 1 := by omega
  by_cases h8 : j + 1 < n
  · have HF : Hid (padE l e = 3) := Lib.hid (by unfold padE; rw [if_pos (by omega)])
    clear hcell hl hj hr
    go_enter Tryd.func56, Tryd.ntmps56
    go_wp2_with fail
    go_ret
    exact ⟨ret_int HF.out.symm, Below.refl _ _⟩
  · have hjn : n = j + 1 := by omega
    have hc := hcell j (by omega)
    have hp := pad_any (l := l) (j := j) (by omega) hr8
    rw [show 8 * (j + 1) - r = e from by omega] at hp
    obtain ⟨y, hy⟩ : ∃ y, y = l[j]'(by omega) := ⟨_, rfl⟩
    have hy2 : l.getD j 0 = y := by rw [hy]; simp [List.getD, show j < l.length from by omega]
    rw [← hy] at hc
    rw [hy2] at hp
    have HF : Hid (padE l e = if decide (y.toNat % 2 ^ r ≠ 0) = true then 4 else 0) := Lib.hid (by unfold padE; rw [if_neg (by omega), hp])
    have hru : ((j : Int) + 1) * 8 - (e : Int) = r := by omega
    have hgt : ¬ ((j : Int) + 1 < (n : Int)) := by omega
    have hix : (j : Int) + 1 - 1 = j := by omega
    have hjlt : (j : Int) < n := by omega
    have hmk := low_mask y r hr8
    clear hcell hl hj hp hy hy2 h hr h8 hjn
    by_cases hz : y.toNat % 2 ^ r = 0
    · have t0 : (bits .and .u8 (y.toNat : Int) ((2 ^ r - 1) % 256) != 0) = false := by rw [hmk, hz]; rfl
      have HF2 : Hid (padE l e = 0) := Lib.hid (by rw [HF.out, if_neg (by simp [hz])])
      clear hz hmk HF
      go_enter Tryd.func56, Tryd.ntmps56
      go_wp2_with fail
      go_quiet (fail)
      go_wp2_with fail
      go_ret
      exact ⟨ret_int HF2.out.symm, below_drewN (Below.refl _ _) _⟩
    · have t0 : (bits .and .u8 (y.toNat : Int) ((2 ^ r - 1) % 256) != 0) = true := by rw [hmk, bne_iff_ne]; omega
      have HF2 : Hid (padE l e = 4) := Lib.hid (by rw [HF.out, if_pos (by simp [hz])])
      clear hz hmk HF
      go_enter Tryd.func56, Tryd.ntmps56
      go_wp2_with fail
      go_quiet (fail)
      go_wp2_with fail
      go_ret
      exact ⟨ret_int HF2.out.symm, below_drewN (Below.refl _ _) _⟩

set_option maxRecDepth 100000 in
set_option maxHeartbeats 12800000 in
theorem unpack_any (w : World) (A : Option Addr) (n c : Nat) (l : List UInt8) (h : Rd w w.heap.size A n l) (hn : (n : Int) ≤ 100000) :
    Calls Tryd.prog 31 #[.slice A n c] w (OutIE w.heap.size 3 w (upZ (unpackL l)) (upE (unpackL l))) := by
  obtain ⟨i0, hi, hz0, hsz, hby⟩ := inf_parts Tryd.inf_int
  have HI := Lib.hid hi
  have HZ0 := Lib.hid hz0
  have HSZ := Lib.hid hsz
  have HBY := Lib.hid hby
  clear hi hz0 hsz hby
  have H := Lib.hid h
  clear h
  obtain ⟨u, hu⟩ : ∃ u, u = unb l := ⟨_, rfl⟩
  have HL := Lib.hid H.out.1
  have HUL : Hid (u.length = 8 * n) := Lib.hid (by rw [hu, unb_len, H.out.1])
  have HUB : Hid (isBits u) := Lib.hid (by rw [hu]; exact isBits_unb l)
  have HU := Lib.hid hu.symm
  have HR : Hid (unpackL l = unp [] u) := Lib.hid (by rw [hu]; rfl)
  clear hu
  go_enter Tryd.func31, Tryd.ntmps31
  go_wp2_with fail
  go_loopw [4, 5] (fun v i wr => ∃ (A1 : Option Addr) (nn c1 t : Nat) (acc : List Int), t ≤ 8 * n ∧ nn ≤ t ∧ i = .int .i64 t ∧ v = .slice A1 nn c1 ∧ Hid (unpackL l = unp acc (u.drop t)) ∧ Hid (wr.ownsRow w.heap.size 3 1 (.slice A1 nn c1) nn (iv acc)) ∧ Hid (Below w.heap.size w wr)) (fun _ i _ => 8 * n - (intOf i).toNat)
  case atStart => exact ⟨none, 0, 0, 0, [], Nat.zero_le _, Nat.zero_le _, rfl, rfl, HR, Lib.hid (ownI_nil w _ _), Lib.hid (Below.refl _ _)⟩
  case round =>
    obtain ⟨A1, nn, c1, t, acc, ht, hnt, rfl, rfl, HE, HO, HB⟩ := hrel
    by_cases hlt : t + 5 ≤ 8 * n
    · have HD := Lib.hid (unp_drop acc (u := u) (t := t) (by rw [HUL.out]; exact hlt))
      have hdec : decide ((t : Int) + 5 ≤ 8 * (n : Int)) = true := by rw [decide_eq_true_eq]; omega
      obtain ⟨x, hx⟩ : ∃ x, x = num2 ((u.drop t).take 5) := ⟨_, rfl⟩
      have hx32 : x < 32 := by
        have h9 := num2_lt 5 ((u.drop t).take 5) (by rw [List.length_take, List.length_drop, HUL.out]; omega) (fun y hy => HUB.out y (List.mem_of_mem_drop (List.mem_of_mem_take hy)))
        rw [← hx] at h9
        exact h9
      have HX := Lib.hid hx
      go_wp2_with fail
      refine (codeAt_any wr _ A n c t l (H.out.below HB.out) hlt (by omega)).mono ?_
      rintro e w1 ⟨rfl, rfl⟩
      rw [HU.out, ← hx]
      clear hdec hx
      by_cases h31 : x = 31
      · have hd := HD.out
        rw [if_pos (by rw [← HX.out, h31])] at hd
        have HD2 := Lib.hid hd
        clear hd HD
        subst h31
        go_wp2_with fail
        refine (checkPadding_any wr _ A n c (t + 5) l (H.out.below HB.out) (by omega) hlt (by omega)).mono ?_
        rintro e w1 ⟨rfl, hb1⟩
        have HB1 := Lib.hid (HB.out.trans (hb1.mono HB.out.size))
        have HO1 := Lib.hid (own_below HO.out hb1)
        clear hb1
        by_cases h8 : 8 ≤ 8 * n - (t + 5)
        · have HF : Hid (unpackL l = .long) := Lib.hid (by rw [HE.out, HD2.out, HUL.out, if_pos h8])
          have hp : padE l (t + 5) = 3 := by unfold padE; rw [HL.out, if_pos h8]
          rw [hp]
          clear hp h8
          go_wp2_with fail
          go_ret2
          rw [HF.out]
          exact ⟨none, 0, 0, rfl, ownI_nil _ _ _, HB1.out⟩
        · by_cases ha : (u.drop (t + 5)).any (fun x => x == 1) = true
          · have HF : Hid (unpackL l = .form) := Lib.hid (by rw [HE.out, HD2.out, HUL.out, if_neg h8, if_pos ha])
            have hp : padE l (t + 5) = 4 := by unfold padE; rw [HL.out, HU.out, if_neg h8, if_pos ha]
            rw [hp]
            clear hp h8 ha
            go_wp2_with fail
            go_ret2
            rw [HF.out]
            exact ⟨none, 0, 0, rfl, ownI_nil _ _ _, HB1.out⟩
          · have HF : Hid (unpackL l = .ok acc) := Lib.hid (by rw [HE.out, HD2.out, HUL.out, if_neg h8, if_neg ha])
            have hp : padE l (t + 5) = 0 := by unfold padE; rw [HL.out, HU.out, if_neg h8, if_neg ha]
            rw [hp]
            clear hp h8 ha
            go_wp2_with fail
            go_ret2
            rw [HF.out]
            exact ⟨A1, nn, c1, rfl, HO1.out, HB1.out⟩
      · have hd := HD.out
        rw [if_neg (by rw [← HX.out]; exact h31), ← HX.out] at hd
        have HD2 : Hid (unpackL l = unp (acc ++ [(x : Int)]) (u.drop (t + 5))) := Lib.hid (HE.out.trans hd)
        have t0 : ((x : Int) != 31) = true := by rw [bne_iff_ne]; omega
        have hz2 := HB.out.size
        clear hd HD h31
        go_wp2_with (at_builtin; refine wpList_app1L _ rfl _ _ 25 rfl w.heap.size 3 i0 _ 8 Tryd.underlying25 HI.out HZ0.out HSZ.out HBY.out rfl _ nn _ rfl (HO.out.alloc _) ⟨_, 0, none⟩ 1 (.int .i64 x) rfl (new_cell _ _ _) rfl (by omega) (by unfold maxLen; omega) (by simp; omega) ?_; intro A3 c3 w8 hown2 hg2 hw2)
        have HO3 := Lib.hid hown2
        have HB3 := Lib.hid (app_below HO.out HB.out hg2)
        clear hown2 hg2 hw2
        go_roundw
        case rel => exact ⟨A3, nn + 1, c3, t + 5, acc ++ [(x : Int)], by omega, by omega, by go_num, rfl, HD2, Lib.hid (by rw [iv_snoc]; exact HO3.out), HB3⟩
        case measure => simp [intOf]; omega
    · have HF : Hid (unpackL l = .short) := Lib.hid (by rw [HE.out]; exact unp_short acc (by rw [List.length_drop, HUL.out]; omega))
      go_wp2_with fail
      go_ret2
      rw [HF.out]
      exact ⟨none, 0, 0, rfl, ownI_nil _ _ _, HB.out⟩

end Go.Proofs.YtpfkkmjodhpkoaaDoor
