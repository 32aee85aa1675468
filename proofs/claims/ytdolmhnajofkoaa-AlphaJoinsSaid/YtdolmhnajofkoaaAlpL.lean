/- Contract of alpha.Unpack. -/
import Derived.Test.YtdolmhnajofkoaaAlpK
namespace Go.Proofs.Ytdolmhnajofkoaa
open Go.RowKit

set_option maxRecDepth 100000 in
set_option maxHeartbeats 12800000 in
theorem unpack_any (w : World) (A : Option Addr) (n c : Nat) (l : List UInt8) (h : Rd w w.heap.size A n l) (hn : (n : Int) ≤ 100000) :
    Calls Try.prog 17 #[.slice A n c] w (OutIE w.heap.size 3 w (upZ (unpackL l)) (upE (unpackL l))) := by
  obtain ⟨i0, hi, hz0, hsz, hby⟩ := inf_parts Try.inf_int
  have HI := Lib.hid hi
  have HZ0 := Lib.hid hz0
  have HSZ := Lib.hid hsz
  have HBY := Lib.hid hby
  clear hi hz0 hsz hby
  have H := Lib.hid h
  clear h
  obtain ⟨u, hu⟩ : ∃ u, u = unb l := ⟨_, rfl⟩
  have HL := Lib.hid H.out.1
  have HUL : Hid (u.length = 8 * n) := Lib.hid (by rw [hu, unb_len, H.out.1])
  have HUB : Hid (isBits u) := Lib.hid (by rw [hu]; exact isBits_unb l)
  have HU := Lib.hid hu.symm
  have HR : Hid (unpackL l = unp [] u) := Lib.hid (by rw [hu]; rfl)
  clear hu
  go_enter Try.func17, Try.ntmps17
  go_wp2_with fail
  go_loopw [4, 5] (fun v i wr => ∃ (A1 : Option Addr) (nn c1 t : Nat) (acc : List Int), t ≤ 8 * n ∧ nn ≤ t ∧ i = .int .i64 t ∧ v = .slice A1 nn c1 ∧ Hid (unpackL l = unp acc (u.drop t)) ∧ Hid (wr.ownsRow w.heap.size 3 1 (.slice A1 nn c1) nn (iv acc)) ∧ Hid (Below w.heap.size w wr)) (fun _ i _ => 8 * n - (intOf i).toNat)
  case atStart => exact ⟨none, 0, 0, 0, [], Nat.zero_le _, Nat.zero_le _, rfl, rfl, HR, Lib.hid (ownI_nil w _ _), Lib.hid (Below.refl _ _)⟩
  case round =>
    obtain ⟨A1, nn, c1, t, acc, ht, hnt, rfl, rfl, HE, HO, HB⟩ := hrel
    by_cases hlt : t + 5 ≤ 8 * n
    · have HD := Lib.hid (unp_drop acc (u := u) (t := t) (by rw [HUL.out]; exact hlt))
      have hdec : decide ((t : Int) + 5 ≤ 8 * (n : Int)) = true := by rw [decide_eq_true_eq]; omega
      obtain ⟨x, hx⟩ : ∃ x, x = num2 ((u.drop t).take 5) := ⟨_, rfl⟩
      have hx32 : x < 32 := by
        have h9 := num2_lt 5 ((u.drop t).take 5) (by rw [List.length_take, List.length_drop, HUL.out]; omega) (fun y hy => HUB.out y (List.mem_of_mem_drop (List.mem_of_mem_take hy)))
        rw [← hx] at h9
        exact h9
      have HX := Lib.hid hx
      go_wp2_with fail
      refine (codeAt_any wr _ A n c t l (H.out.below HB.out) hlt (by omega)).mono ?_
      rintro e w1 ⟨rfl, rfl⟩
      rw [HU.out, ← hx]
      clear hdec hx
      by_cases h31 : x = 31
      · have hd := HD.out
        rw [if_pos (by rw [← HX.out, h31])] at hd
        have HD2 := Lib.hid hd
        clear hd HD
        subst h31
        go_wp2_with fail
        refine (checkPadding_any wr _ A n c (t + 5) l (H.out.below HB.out) (by omega) hlt (by omega)).mono ?_
        rintro e w1 ⟨rfl, hb1⟩
        have HB1 := Lib.hid (HB.out.trans (hb1.mono HB.out.size))
        have HO1 := Lib.hid (own_below HO.out hb1)
        clear hb1
        by_cases h8 : 8 ≤ 8 * n - (t + 5)
        · have HF : Hid (unpackL l = .long) := Lib.hid (by rw [HE.out, HD2.out, HUL.out, if_pos h8])
          have hp : padE l (t + 5) = 3 := by unfold padE; rw [HL.out, if_pos h8]
          rw [hp]
          clear hp h8
          go_wp2_with fail
          go_ret2
          rw [HF.out]
          exact ⟨none, 0, 0, rfl, ownI_nil _ _ _, HB1.out⟩
        · by_cases ha : (u.drop (t + 5)).any (fun x => x == 1) = true
          · have HF : Hid (unpackL l = .form) := Lib.hid (by rw [HE.out, HD2.out, HUL.out, if_neg h8, if_pos ha])
            have hp : padE l (t + 5) = 4 := by unfold padE; rw [HL.out, HU.out, if_neg h8, if_pos ha]
            rw [hp]
            clear hp h8 ha
            go_wp2_with fail
            go_ret2
            rw [HF.out]
            exact ⟨none, 0, 0, rfl, ownI_nil _ _ _, HB1.out⟩
          · have HF : Hid (unpackL l = .ok acc) := Lib.hid (by rw [HE.out, HD2.out, HUL.out, if_neg h8, if_neg ha])
            have hp : padE l (t + 5) = 0 := by unfold padE; rw [HL.out, HU.out, if_neg h8, if_neg ha]
            rw [hp]
            clear hp h8 ha
            go_wp2_with fail
            go_ret2
            rw [HF.out]
            exact ⟨A1, nn, c1, rfl, HO1.out, HB1.out⟩
      · have hd := HD.out
        rw [if_neg (by rw [← HX.out]; exact h31), ← HX.out] at hd
        have HD2 : Hid (unpackL l = unp (acc ++ [(x : Int)]) (u.drop (t + 5))) := Lib.hid (HE.out.trans hd)
        have t0 : ((x : Int) != 31) = true := by rw [bne_iff_ne]; omega
        have hz2 := HB.out.size
        clear hd HD h31
        go_wp2_with (at_builtin; refine wpList_app1L _ rfl _ _ 23 rfl w.heap.size 3 i0 _ 8 Try.underlying23 HI.out HZ0.out HSZ.out HBY.out rfl _ nn _ rfl (HO.out.alloc _) ⟨_, 0, none⟩ 1 (.int .i64 x) rfl (new_cell _ _ _) rfl (by omega) (by unfold maxLen; omega) (by simp; omega) ?_; intro A3 c3 w8 hown2 hg2 hw2)
        have HO3 := Lib.hid hown2
        have HB3 := Lib.hid (app_below HO.out HB.out hg2)
        clear hown2 hg2 hw2
        go_roundw
        case rel => exact ⟨A3, nn + 1, c3, t + 5, acc ++ [(x : Int)], by omega, by omega, by go_num, rfl, HD2, Lib.hid (by rw [iv_snoc]; exact HO3.out), HB3⟩
        case measure => simp [intOf]; omega
    · have HF : Hid (unpackL l = .short) := Lib.hid (by rw [HE.out]; exact unp_short acc (by rw [List.length_drop, HUL.out]; omega))
      go_wp2_with fail
      go_ret2
      rw [HF.out]
      exact ⟨none, 0, 0, rfl, ownI_nil _ _ _, HB.out⟩

end Go.Proofs.Ytdolmhnajofkoaa
