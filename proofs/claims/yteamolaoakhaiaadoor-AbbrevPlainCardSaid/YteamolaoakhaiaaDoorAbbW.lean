/- Contract of Join (pieces). -/
import Derived.Test.YteamolaoakhaiaaDoorAbbH
import Derived.Test.YteamolaoakhaiaaDoorAbbK
import Derived.Test.YteamolaoakhaiaaDoorBld
namespace Go.Proofs.YteamolaoakhaiaaDoor
open Go.RowKit
set_option linter.unusedVariables false

set_option maxRecDepth 100000 in
set_option maxHeartbeats 6400000 in
theorem pjoin_any (w : World) (A A' : Option Addr) (n n' c c' : Nat) (ps : List Pc) (ls : List (List UInt8)) (h : RdP w w.heap.size A n ps) (h' : RdS w w.heap.size A' n' ls) (hs : ShortP 1000 ps) (hm : Short_ 1000 ls) (hn : (n : Int) ≤ 10000) (hn' : (n' : Int) ≤ 10000) (hc' : n' ≤ c') :
    Calls Tryd.prog 19 #[.slice A n c, .slice A' n' c'] w fun e w' => e = .returned (.tuple #[.string (bs (jnT (joinL ls ps))), .int .i64 (jnE (joinL ls ps))]) ∧ Below w.heap.size w w' := by
  have H := Lib.hid h
  have H' := Lib.hid h'
  have HL := Lib.hid h.1
  have HL' := Lib.hid h'.1
  have HS := Lib.hid hs
  have HM := Lib.hid hm
  obtain ⟨b, hb⟩ : ∃ b, b = w.heap.size := ⟨_, rfl⟩
  obtain ⟨W, hW⟩ : ∃ W, W = w.alloc (.cells #[.pointer none, .slice none 0 0] 65) := ⟨_, rfl⟩
  have HB0 : Hid (Below w.heap.size w W) := Lib.hid (by rw [hW]; exact (Below.refl _ w).alloc (Nat.le_refl _) _)
  have HBL0 : Hid (Bld b b [] W) := Lib.hid (by rw [hW, hb]; exact Bld.new w)
  have HBE := Lib.hid hb
  have HWE := Lib.hid hW
  clear h h' hs hm hb hW
  go_enter Tryd.func19, Tryd.ntmps19
  go_wp2_with fail
  try go_frame
  rw [← HWE.out, ← HBE.out]
  refine (known_any W A' n' c' hc' hn').mono ?_
  rintro e w1 ⟨rfl, rfl⟩
  obtain ⟨m, hmm⟩ : ∃ m, m = min n' 32 := ⟨_, rfl⟩
  rw [← hmm]
  have HMM := Lib.hid hmm
  clear hmm
  go_wp2_with fail
  go_loopw [14] (fun i wr => ∃ (j : Nat) (t : List UInt8), j ≤ n ∧ t.length ≤ 1000 * j ∧ i = .int .i64 j ∧ Hid (Bld b b t wr) ∧ Hid (joinL ls ps = joinF ls t (ps.drop j)) ∧ Hid (Below w.heap.size w wr)) (fun i _ => n - (intOf i).toNat)
  case atStart => exact ⟨0, [], by omega, by simp, rfl, HBL0, Lib.hid rfl, HB0⟩
  case round =>
    clear HBL0 HB0
    obtain ⟨j, t, hj, htl, rfl, HBL, HJ, HB⟩ := hrel
    have HBS : Hid (b ≤ wr.heap.size) := Lib.hid (by rw [HBE.out]; exact HB.out.size)
    by_cases hlt : j < n
    · obtain ⟨ad, rfl, hab, hcell⟩ := H.out.2 (by omega)
      have k1 := (HB.out.cell (p := ad.add (j * 2)) (by rw [blk_add]; omega)).trans (hcell j (by rw [HL.out]; exact hlt)).1
      have k2 := (HB.out.cell (p := ⟨(ad.add (j * 2)).block, (ad.add (j * 2)).off + 1, none⟩) (by show (ad.add (j * 2)).block < _; rw [blk_add]; omega)).trans (hcell j (by rw [HL.out]; exact hlt)).2
      have HT := Lib.hid (join_drop (ab := ls) (acc := t) (ps := ps) (j := j) (by rw [HL.out]; exact hlt))
      have hp := HS.out j
      obtain ⟨p, hpp⟩ : ∃ p, p = ps[j]?.getD ([], 0) := ⟨_, rfl⟩
      rw [← hpp] at k1 k2 hp HT
      obtain ⟨x, y⟩ := p
      change x.length ≤ 1000 at hp
      have HB2 := Lib.hid (HB.out.alloc HB.out.size (.cells #[.string (bs x), .int .i64 y] 39))
      have HBL2 := Lib.hid (HBL.out.below ((Below.refl wr.heap.size wr).alloc (Nat.le_refl _) (.cells #[.string (bs x), .int .i64 y] 39)))
      have HBS2 : Hid (b ≤ (wr.alloc (.cells #[.string (bs x), .int .i64 y] 39)).heap.size) := Lib.hid (by have := HBS.out; simp; omega)
      clear hcell hpp
      by_cases hbad : y < 0 ∨ (n' : Int) < y ∨ 32 < y
      · have HF : Hid (joinL ls ps = none) := Lib.hid (by rw [HJ.out, HT.out, if_pos (by rw [HL'.out]; exact hbad)])
        have hcs : y < 0 ∨ (¬ y < 0 ∧ (m : Int) < y) := by have := HMM.out; omega
        clear hbad
        rcases hcs with h1 | ⟨h1, h2⟩
        all_goals
          go_wp2_with fail
          go_ret2
          rw [HF.out]
          exact ⟨rfl, HB2.out⟩
      · have HF : Hid (joinL ls ps = joinF ls (t ++ if 0 < y then ls.getD (y - 1).toNat [] else x) (ps.drop (j + 1))) := Lib.hid (by rw [HJ.out, HT.out, if_neg (by rw [HL'.out]; exact hbad)])
        have y0 : ¬ y < 0 := by omega
        have y1 : ¬ (m : Int) < y := by have := HMM.out; omega
        by_cases hy : 0 < y
        · obtain ⟨z, hz⟩ : ∃ z : Nat, y = (z : Int) + 1 := ⟨(y - 1).toNat, by omega⟩
          have hzn : z < n' := by omega
          obtain ⟨ad', rfl, hab', hcell'⟩ := H'.out.2 (by omega)
          have k3 := (HB2.out.cell (p := ad'.add z) (by rw [blk_add]; omega)).trans (hcell' z (by rw [HL'.out]; omega))
          have hq := HM.out z
          obtain ⟨a, ha⟩ : ∃ a, a = ls[z]?.getD [] := ⟨_, rfl⟩
          have HF2 : Hid (joinL ls ps = joinF ls (t ++ a) (ps.drop (j + 1))) := Lib.hid (by
            rw [HF.out, if_pos hy, ha, show (y - 1).toNat = z from by omega]
            rfl)
          rw [← ha] at k3 hq
          have y3 : y - 1 = (z : Int) := by omega
          have y4 : (z : Int) < (m : Int) := by have := HMM.out; omega
          have y5 : (z : Int) ≤ 32 := by have := HMM.out; omega
          have hlen : t.length + (bs a).size ≤ 100000000 := by rw [bs_size]; omega
          have HLEN := Lib.hid hlen
          clear hcell' ha hz hbad hlen hzn
          go_wp2_with fail
          refine (write_any b b t (bs a) _ HBL2.out HLEN.out HBS2.out).mono ?_
          rintro e w3 ⟨rfl, hbl, hb3⟩
          rw [data_bs] at hbl
          have HBL3 := Lib.hid hbl
          have HB3 := Lib.hid (HB2.out.trans (by rw [HBE.out] at hb3; exact hb3))
          clear hbl hb3
          go_wp2_with fail
          go_roundw
          case rel => exact ⟨j + 1, t ++ a, by omega, by rw [List.length_append]; omega, by go_num, HBL3, HF2, HB3⟩
          case measure => simp [intOf]; omega
        · have HF2 : Hid (joinL ls ps = joinF ls (t ++ x) (ps.drop (j + 1))) := Lib.hid (by rw [HF.out, if_neg hy])
          have hlen : t.length + (bs x).size ≤ 100000000 := by rw [bs_size]; omega
          have HLEN := Lib.hid hlen
          clear hbad hlen
          go_wp2_with fail
          refine (write_any b b t (bs x) _ HBL2.out HLEN.out HBS2.out).mono ?_
          rintro e w3 ⟨rfl, hbl, hb3⟩
          rw [data_bs] at hbl
          have HBL3 := Lib.hid hbl
          have HB3 := Lib.hid (HB2.out.trans (by rw [HBE.out] at hb3; exact hb3))
          clear hbl hb3
          go_wp2_with fail
          go_roundw
          case rel => exact ⟨j + 1, t ++ x, by omega, by rw [List.length_append]; omega, by go_num, HBL3, HF2, HB3⟩
          case measure => simp [intOf]; omega
    · have HF : Hid (joinL ls ps = some t) := Lib.hid (by rw [HJ.out, List.drop_of_length_le (by rw [HL.out]; omega)]; rfl)
      go_wp2_with fail
      refine (string_any b b t wr HBL.out HBS.out).mono ?_
      rintro e w3 ⟨rfl, hb3⟩
      have HB3 := Lib.hid (HB.out.trans (by rw [HBE.out] at hb3; exact hb3))
      clear hb3
      go_wp2_with fail
      go_ret2
      rw [HF.out]
      exact ⟨rfl, HB3.out⟩

end Go.Proofs.YteamolaoakhaiaaDoor
