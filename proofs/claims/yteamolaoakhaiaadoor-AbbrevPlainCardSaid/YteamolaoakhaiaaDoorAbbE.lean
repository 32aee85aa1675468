/- Contract of layer 7's reference: Least. -/
import Derived.Test.YteamolaoakhaiaaDoorAbbD
import Derived.Deep.QuietTactic
import Derived.BigQuiet
namespace Go.Proofs.YteamolaoakhaiaaDoor
open Go.RowKit

theorem costL_one_le (l : List UInt8) : costL (l.take 1) ≤ 3 := by
  have h := costL_le (l.take 1)
  rw [List.length_take] at h
  omega

theorem rds_draw7 {w : World} {B : Nat} {A : Option Addr} {n : Nat} {ls : List (List UInt8)} (h : RdS w B A n ls) (m : Nat) : RdS (w.drewN m) B A n ls := h

/-- what Least leaves: the table, in a new block -/
def TbOut (w : World) (zs : List Int) (e : Ending) (w' : World) : Prop := ∃ g, e = .returned (.slice (some ⟨g, 0, none⟩) zs.length zs.length) ∧ Tb w' g zs ∧ Below w.heap.size w w' ∧ w.heap.size ≤ g

theorem made_ints (k : Nat) : madeCells (Value.int .i64 0).cells k = (iv (List.replicate k 0)).toArray := by
  apply Array.ext
  · simp [madeCells, iv]
  · intro i h1 h2
    have : (Value.int .i64 0).cells = #[.int .i64 0] := rfl
    simp [madeCells, this, iv, Nat.mod_one]

set_option maxRecDepth 100000 in
set_option maxHeartbeats 12800000 in
theorem rLeast_any (w : World) (s : ByteArray) (A : Option Addr) (n c : Nat) (ls : List (List UInt8)) (h : RdS w w.heap.size A n ls) (hs : (s.size : Int) ≤ 1000) (hm : Short_ 1000 ls) (hn : (n : Int) ≤ 1000) :
    Calls Tryd.prog 33 #[.string s, .slice A n c] w (TbOut w (ni (tab ls s.data.toList))) := by
  obtain ⟨i0, hi, hz0, hsz, hby⟩ := inf_parts Tryd.inf_int
  have hmk : (Instr.makeSlice 59 (.int .i64 ((s.size : Int) + 1)) (.int .i64 ((s.size : Int) + 1))).run Tryd.prog w = .ok (.slice (some ⟨w.heap.size, 0, none⟩) (s.size + 1) (s.size + 1)) (w.alloc (.cells (iv (List.replicate (s.size + 1) 0)).toArray 3)) := by
    have h := run_make (P := Tryd.prog) w 59 3 i0 _ Tryd.underlying59 hi hz0 .i64 .i64 ((s.size : Int) + 1) ((s.size : Int) + 1) (by omega) (Int.le_refl _) (by rw [hby]; omega) (by omega)
    rw [h, hsz, Nat.mul_one, made_ints, show ((s.size : Int) + 1).toNat = s.size + 1 from by omega]
  have hsl : s.data.toList.length = s.size := by rw [Array.length_toList]; rfl
  have HSL := Lib.hid hsl
  have H := Lib.hid h
  have HL := Lib.hid h.1
  have HM := Lib.hid hm
  obtain ⟨g, hg⟩ : ∃ g, g = w.heap.size := ⟨_, rfl⟩
  obtain ⟨W, hW⟩ : ∃ W, W = w.alloc (.cells (iv (List.replicate (s.size + 1) 0)).toArray 3) := ⟨_, rfl⟩
  have HB0 : Hid (Below w.heap.size w W) := Lib.hid (by rw [hW]; exact (Below.refl _ _).alloc (Nat.le_refl _) _)
  have HT0 : Hid (Tb W g (rowK ls s.data.toList s.size)) := Lib.hid (by
    have e : rowK ls s.data.toList s.size = List.replicate (s.size + 1) 0 := by
      unfold rowK
      rw [List.drop_of_length_le (by omega), List.replicate_succ']
      rfl
    rw [hW, e, hg]
    exact Blk.new _ _ _)
  have HG := Lib.hid hg
  rw [← hg, ← hW] at hmk
  clear hi hz0 hsz hby h hm hsl hW hg
  go_enter Tryd.func33, Tryd.ntmps33
  go_wp2_with fail
  clear hmk
  go_loopw [6] (fun i wr => ∃ (k : Nat) (z : Int), k ≤ s.size ∧ z = (k : Int) - 1 ∧ i = .int .i64 z ∧ Hid (Tb wr g (rowK ls s.data.toList k)) ∧ Hid (Below w.heap.size w wr)) (fun i _ => (intOf i + 1).toNat)
  case atStart => exact ⟨s.size, (s.size : Int) - 1, by omega, rfl, by go_num, HT0, HB0⟩
  case round =>
    clear HT0 HB0
    obtain ⟨k, z, hk, hz, rfl, HT, HB⟩ := hrel
    by_cases hlt : 0 < k
    · obtain ⟨i, rfl⟩ : ∃ i, k = i + 1 := ⟨k - 1, by omega⟩
      have hzi : z = (i : Int) := by omega
      subst hzi
      have hi : i < s.size := by omega
      have hgl : g < wr.heap.size := Blk.lt HT.out
      have hrl := rowK_len ls s.data.toList (k := i + 1) (by rw [HSL.out]; omega)
      rw [HSL.out] at hrl
      have c1 := HT.out.cell (j := i + 1) (by omega)
      have c0 := HT.out.cell (j := i) (by omega)
      have f0 := Blk.frozen HT.out i
      rw [rowK_at _ _ (Nat.le_refl _) (by rw [HSL.out]; omega)] at c1
      have hle := least_le_cost ls (s.data.toList.drop (i + 1))
      have hle2 := costL_le (s.data.toList.drop (i + 1))
      rw [List.length_drop, HSL.out] at hle2
      obtain ⟨v, hv⟩ : ∃ v, v = least ls (s.data.toList.drop (i + 1)) := ⟨_, rfl⟩
      have hv2 : v ≤ 3000 := by omega
      obtain ⟨u, hu⟩ : ∃ u, u = (rowK ls s.data.toList (i + 1)).getD i 0 := ⟨_, rfl⟩
      have hc3 := costL_one_le (s.data.toList.drop i)
      have hex : (s.extract i (i + 1)).data.toList = (s.data.toList.drop i).take 1 := by
        rw [ByteArray.data_extract, Array.toList_extract, List.extract_eq_take_drop, show i + 1 - i = 1 from by omega]
      obtain ⟨x, hx⟩ : ∃ x, x = costL ((s.data.toList.drop i).take 1) := ⟨_, rfl⟩
      have HX : Hid (costL (s.extract i (i + 1)).data.toList = x) := Lib.hid (by rw [hex, hx])
      have HMZ : Hid (x + v = mAt ls s.data.toList i 0) := Lib.hid (by rw [mAt_zero, hx, hv])
      rw [← hv] at c1
      rw [← hu] at c0
      rw [← hx] at hc3
      have hexs : ((s.extract i (i + 1)).size : Int) ≤ 100000 := by rw [ByteArray.size_extract]; omega
      have HEX := Lib.hid hexs
      have b1 : 0 ≤ (i : Int) + 1 ∧ (i : Int) + 1 ≤ (s.size : Int) := by omega
      have b2 : 0 ≤ (i : Int) ∧ (i : Int) ≤ (i : Int) + 1 := by omega
      have b3 : 0 ≤ (i : Int) + 1 ∧ (i : Int) + 1 < (s.size : Int) + 1 := by omega
      have b4 : 0 ≤ (i : Int) ∧ (i : Int) < (s.size : Int) + 1 := by omega
      have b5 : ((i : Int) + 1).toNat = i + 1 := by omega
      have b6 : IntKind.i64.wrap ((i : Int) + 1) = (i : Int) + 1 := IntWalk.i64_in _ (by omega)
      have b7 : IntKind.i64.wrap ((x : Int) + (v : Int)) = (x : Int) + (v : Int) := IntWalk.i64_in _ (by omega)
      have b8 : (i : Int) ≤ (i : Int) + 1 := by omega
      clear hrl hle hle2 hv hu hx hex hz hexs
      go_wp2_with fail
      go_region_with
        (
          go_at_call 20
          refine (rcost_any _ _ HEX.out).mono ?_
          rintro e w2 ⟨rfl, hb2⟩
          rw [HX.out]
          have d1 := (hb2.cell (p := ⟨g, i + 1, none⟩) hgl).trans c1
          have d0 := (hb2.cell (p := ⟨g, i, none⟩) hgl).trans c0
          have e0 := (hb2.frozen (p := ⟨g, i, none⟩) hgl).trans f0)
      all_goals
        have hb3 : Below wr.heap.size wr w2 := ((Below.refl wr.heap.size wr).drew).trans hb2
        have HT2 : Hid (Tb (w2.setCell ⟨g, i, none⟩ (.int .i64 ((x : Int) + (v : Int)))) g (rowM ls s.data.toList i (mAt ls s.data.toList i 0))) := Lib.hid (by
          rw [← HMZ.out, ← rowK_set]
          exact (Tb.below HT.out hb3).set_ i _)
        have HB2 : Hid (Below w.heap.size w (w2.setCell ⟨g, i, none⟩ (.int .i64 ((x : Int) + (v : Int))))) := Lib.hid ((HB.out.trans (hb3.mono HB.out.size)).setCell (Nat.le_of_eq HG.out.symm) _)
        clear c1 c0 f0 d1 d0 e0 hb2 hb3 b7 HT HB hgl hc3 HX HMZ hv2 HEX
        generalize w2.setCell ⟨g, i, none⟩ (.int .i64 ((x : Int) + (v : Int))) = w3 at *
        go_wp2_with fail
        go_loopw [7] (fun jj wi => ∃ j : Nat, j ≤ n ∧ jj = .int .i64 j ∧ Hid (Tb wi g (rowM ls s.data.toList i (mAt ls s.data.toList i j))) ∧ Hid (Below w.heap.size w wi)) (fun jj _ => n - (intOf jj).toNat)
        case atStart => exact ⟨0, by omega, rfl, HT2, HB2⟩
        case round =>
          clear HT2 HB2
          obtain ⟨j, hj, rfl, HT, HB⟩ := hrel
          by_cases hlt2 : j < n
          · obtain ⟨ad, rfl, hab, hcell⟩ := H.out.2 (by omega)
            have ka := (HB.out.cell (p := ad.add j) (by rw [blk_add]; exact hab)).trans (hcell j (by rw [HL.out]; exact hlt2))
            have hp := HM.out j
            obtain ⟨R, hR⟩ : ∃ R, R = bs (ls[j]?.getD []) := ⟨_, rfl⟩
            have hRl : R.data.toList = ls[j]?.getD [] := by rw [hR, data_bs]
            have hRz : (ls[j]?.getD []).length = R.size := by rw [hR, bs_size]
            have hRs : (R.size : Int) ≤ 1000 := by omega
            rw [← hR] at ka
            have d0 := HT.out.cell (j := i) (by rw [rowM_len _ _ (by rw [HSL.out]; omega)]; rw [HSL.out]; omega)
            rw [rowM_head] at d0
            have hml := mAt_le ls s.data.toList i j
            have hle := least_le_cost ls (s.data.toList.drop (i + 1))
            have hle2 := costL_le (s.data.toList.drop (i + 1))
            have hc3 := costL_one_le (s.data.toList.drop i)
            rw [List.length_drop, HSL.out] at hle2
            obtain ⟨m, hm⟩ : ∃ m, m = mAt ls s.data.toList i j := ⟨_, rfl⟩
            have HMM := Lib.hid hm
            have hm4 : m ≤ 4000 := by omega
            rw [← hm] at d0
            have HRD := Lib.hid (H.out.below HB.out)
            have HMM2 : Short_ 100000 ls := fun j => Nat.le_trans (HM.out j) (by omega)
            have HSS := Lib.hid HMM2
            have hjl : j < ls.length := by rw [HL.out]; exact hlt2
            clear hcell hp hle hle2 hml hc3 hm HMM2
            cases hq : fitB s.data.toList i ls j with
            | false =>
              have hfit : ∀ nq, Calls Tryd.prog 34 #[.string s, .int .i64 i, .slice (some ad) n c, .int .i64 j] (wr.drewN nq) fun e w' => e = .returned (.bool false) ∧ w' = wr.drewN nq := fun nq => by
                have h1 := rFits_any (wr.drewN nq) _ s i (some ad) n c j ls (rds_draw7 HRD.out nq) hlt2 (by omega) (by omega) HSS.out (by omega)
                rw [hq] at h1
                exact h1.mono fun e w' ⟨a, b⟩ => ⟨a, b.symm⟩
              have HN : Hid (mAt ls s.data.toList i (j + 1) = mAt ls s.data.toList i j) := Lib.hid (mAt_no hjl (.inl hq) (by rw [HSL.out]; omega))
              clear hq hR hRl hRz hjl
              go_wp2_with fail
              go_quiet ((go_at_call 34; exact Calls.quiet_of_same (hfit _)))
              go_wp2_with fail
              go_roundw
              case rel => exact ⟨j + 1, by omega, by go_num, Lib.hid (by rw [HN.out]; exact HT.out), Lib.hid (below_drewN HB.out _)⟩
              case measure => simp [intOf]; omega
            | true =>
              have hfit : ∀ nq, Calls Tryd.prog 34 #[.string s, .int .i64 i, .slice (some ad) n c, .int .i64 j] (wr.drewN nq) fun e w' => e = .returned (.bool true) ∧ w' = wr.drewN nq := fun nq => by
                have h1 := rFits_any (wr.drewN nq) _ s i (some ad) n c j ls (rds_draw7 HRD.out nq) hlt2 (by omega) (by omega) HSS.out (by omega)
                rw [hq] at h1
                exact h1.mono fun e w' ⟨a, b⟩ => ⟨a, b.symm⟩
              have hq2 := hq
              unfold fitB at hq2
              simp only [Bool.and_eq_true, decide_eq_true_eq] at hq2
              have hq3 := isPre_len hq2.2
              rw [List.length_drop, HSL.out, hRz] at hq3
              have hq4 := pos_of_ne hq2.1.2
              rw [hRz] at hq4
              have d1 := HT.out.cell (j := i + R.size) (by rw [rowM_len _ _ (by rw [HSL.out]; omega), HSL.out]; omega)
              rw [rowM_at _ _ (by omega) (by rw [HSL.out]; omega)] at d1
              have hle := least_le_cost ls (s.data.toList.drop (i + R.size))
              have hle2 := costL_le (s.data.toList.drop (i + R.size))
              rw [List.length_drop, HSL.out] at hle2
              obtain ⟨y, hy⟩ : ∃ y, y = least ls (s.data.toList.drop (i + R.size)) := ⟨_, rfl⟩
              have hy3 : y ≤ 3000 := by omega
              rw [← hy] at d1
              have HYN : Hid (m ≤ 2 + y → mAt ls s.data.toList i (j + 1) = mAt ls s.data.toList i j) := Lib.hid (fun h5 => mAt_no hjl (.inr (by rw [hRz, ← hy, ← HMM.out]; exact h5)) (by rw [HSL.out]; omega))
              have HYY : Hid (2 + y < m → mAt ls s.data.toList i (j + 1) = 2 + y) := Lib.hid (fun h5 => by rw [mAt_yes hjl hq (by rw [hRz, ← hy, ← HMM.out]; exact h5), hRz, ← hy])
              have g1 : IntKind.i64.wrap ((i : Int) + (R.size : Int)) = (i : Int) + (R.size : Int) := IntWalk.i64_in _ (by omega)
              have g2 : 0 ≤ (i : Int) + (R.size : Int) ∧ (i : Int) + (R.size : Int) < (s.size : Int) + 1 := by omega
              have g3 : ((i : Int) + (R.size : Int)).toNat = i + R.size := by omega
              have g4 : IntKind.i64.wrap (2 + (y : Int)) = 2 + (y : Int) := IntWalk.i64_in _ (by omega)
              have g5 : 0 ≤ (i : Int) + (R.size : Int) := by omega
              have g6 : (i : Int) + (R.size : Int) < (s.size : Int) + 1 := by omega
              have g7 : (j : Int) < (n : Int) := by omega
              clear hq hq2 hq3 hR hRl hRz hjl hle hle2 hy
              by_cases hcmp : (2 : Int) + (y : Int) < (m : Int)
              · have HN := Lib.hid (HYY.out (by omega))
                clear HYY HYN
                go_wp2_with fail
                go_quiet ((go_at_call 34; exact Calls.quiet_of_same (hfit _)))
                have k1 : (wr.drewN nq).cell? ⟨g, i + R.size, none⟩ = some (.int .i64 y) := d1
                have k2 : (wr.drewN nq).cell? ⟨g, i, none⟩ = some (.int .i64 m) := d0
                have k3 : (wr.drewN nq).cell? (ad.add j) = some (.string R) := ka
                have k4 : (wr.drewN nq).frozen? ⟨g, i, none⟩ = false := Blk.frozen HT.out i
                have HT5 : Hid (Tb (wr.drewN nq) g (rowM ls s.data.toList i (mAt ls s.data.toList i j))) := Lib.hid HT.out
                have HB5 : Hid (Below w.heap.size w (wr.drewN nq)) := Lib.hid (below_drewN HB.out _)
                clear hfit d1 d0 ka HT HB HRD
                generalize wr.drewN nq = w5 at *
                go_wp2_with fail
                go_roundw
                case rel => exact ⟨j + 1, by omega, by go_num, Lib.hid (by rw [HN.out, ← rowM_set ls s.data.toList i (mAt ls s.data.toList i j)]; exact HT5.out.set_ i _), Lib.hid (HB5.out.setCell (Nat.le_of_eq HG.out.symm) _)⟩
                case measure => simp [intOf]; omega
              · have HN := Lib.hid (HYN.out (by omega))
                have t0 : decide ((2 : Int) + (y : Int) < (m : Int)) = false := by rw [decide_eq_false_iff_not]; exact hcmp
                clear HYY HYN
                go_wp2_with fail
                go_quiet ((go_at_call 34; exact Calls.quiet_of_same (hfit _)))
                go_wp2_with fail
                go_roundw
                case rel => exact ⟨j + 1, by omega, by go_num, Lib.hid (by rw [HN.out]; exact HT.out), Lib.hid (below_drewN HB.out _)⟩
                case measure => simp [intOf]; omega
          · obtain rfl : j = n := by omega
            have HE : Hid (Tb wr g (rowK ls s.data.toList i)) := Lib.hid (by
              have h1 := HT.out
              rw [← HL.out, mAt_all ls (by rw [HSL.out]; omega)] at h1
              exact h1)
            go_wp2_with fail
            go_roundw
            case rel => exact ⟨i, (i : Int) - 1, by omega, rfl, by go_num, HE, HB⟩
            case measure => simp [intOf]
    · obtain rfl : k = 0 := by omega
      have hz2 : z = -1 := by omega
      subst hz2
      have hlen : (ni (tab ls s.data.toList)).length = s.size + 1 := by rw [ni_length, tab_len, HSL.out]
      have HLEN := Lib.hid hlen
      clear hlen hz
      go_wp2_with fail
      go_ret
      refine ⟨g, ?_, HT.out, HB.out, Nat.le_of_eq HG.out.symm⟩
      rw [HLEN.out]
      rfl

end Go.Proofs.YteamolaoakhaiaaDoor
