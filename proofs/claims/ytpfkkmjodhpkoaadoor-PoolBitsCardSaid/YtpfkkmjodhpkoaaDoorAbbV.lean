/- Contract of Cost (pieces). -/
import Derived.Test.YtpfkkmjodhpkoaaDoorAbbC
import Derived.Test.YtpfkkmjodhpkoaaDoorAlpF
namespace Go.Proofs.YtpfkkmjodhpkoaaDoor
open Go.RowKit
set_option linter.unusedVariables false

set_option maxRecDepth 100000 in
set_option maxHeartbeats 3200000 in
theorem pcosts_any (w : World) (A A' : Option Addr) (n n' c c' : Nat) (ps : List Pc) (ls : List (List UInt8)) (h0 : RdP w w.heap.size A n ps) (h' : RdS w w.heap.size A' n' ls) (hs : ShortP 1000 ps) (hn : (n : Int) ≤ 10000) :
    Calls Tryd.prog 18 #[.slice A n c, .slice A' n' c'] w fun e w' => e = .returned (.int .i64 (pcost ps : Nat)) ∧ Below w.heap.size w w' := by
  obtain ⟨B, hB'⟩ : ∃ B, B = w.heap.size := ⟨_, rfl⟩
  have h : RdP w B A n ps := by rw [hB']; exact h0
  have hB : B ≤ w.heap.size := Nat.le_of_eq hB'
  clear h0 h' hB'
  have H := Lib.hid h
  have HL := Lib.hid h.1
  have HS := Lib.hid hs
  clear h hs
  go_enter Tryd.func18, Tryd.ntmps18
  go_wp2_with fail
  go_loopw [5, 10] (fun v i wr => ∃ (j q : Nat), j ≤ n ∧ i = .int .i64 j ∧ v = .int .i64 q ∧ Hid (q = pcost (ps.take j)) ∧ Hid (Below w.heap.size w wr)) (fun _ i _ => n - (intOf i).toNat)
  case atStart => exact ⟨0, 0, by omega, rfl, rfl, Lib.hid rfl, Lib.hid (Below.refl _ _)⟩
  case round =>
    obtain ⟨j, q, hj, rfl, rfl, HQ, HB⟩ := hrel
    by_cases hlt : j < n
    · obtain ⟨ad, rfl, hab, hcell⟩ := H.out.2 (by omega)
      have k1 := (HB.out.cell (p := ad.add (j * 2)) (by rw [blk_add]; omega)).trans (hcell j (by rw [HL.out]; exact hlt)).1
      have k2 := (HB.out.cell (p := ⟨(ad.add (j * 2)).block, (ad.add (j * 2)).off + 1, none⟩) (by show (ad.add (j * 2)).block < _; rw [blk_add]; omega)).trans (hcell j (by rw [HL.out]; exact hlt)).2
      have hq : q ≤ 30020000 := by
        have h1 := pcost_le HS.out j
        rw [← HQ.out] at h1
        omega
      have HT := Lib.hid (pcost_take (ps := ps) (j := j) (by rw [HL.out]; exact hlt))
      have hp := HS.out j
      obtain ⟨p, hpp⟩ : ∃ p, p = ps[j]?.getD ([], 0) := ⟨_, rfl⟩
      rw [← hpp] at k1 k2 hp HT
      obtain ⟨x, y⟩ := p
      clear hcell hpp
      by_cases hy : 0 < y
      · have hy1 : 1 ≤ y := by omega
        have HT2 : Hid (pcost (ps.take (j + 1)) = pcost (ps.take j) + 2) := Lib.hid (by rw [HT.out, if_pos hy])
        have HB2 := Lib.hid (HB.out.alloc HB.out.size (.cells #[.string (bs x), .int .i64 y] 58))
        go_wp2_with fail
        go_roundw
        case rel => exact ⟨j + 1, q + 2, by omega, by go_num, by go_num, Lib.hid (by rw [HT2.out, ← HQ.out]), HB2⟩
        case measure => simp [intOf]; omega
      · have hy1 : ¬ 1 ≤ y := by omega
        have HT2 : Hid (pcost (ps.take (j + 1)) = pcost (ps.take j) + costL x) := Lib.hid (by rw [HT.out, if_neg hy])
        have HB2 := Lib.hid (HB.out.alloc HB.out.size (.cells #[.string (bs x), .int .i64 y] 58))
        have hc := costL_le x
        obtain ⟨z, hz⟩ : ∃ z, z = costL x := ⟨_, rfl⟩
        rw [← hz] at HT2 hc
        have HZ : Hid (costL (bs x).data.toList = z) := Lib.hid (by rw [data_bs, hz])
        have hsz : ((bs x).size : Int) ≤ 100000 := by rw [bs_size]; change x.length ≤ 1000 at hp; omega
        have HSZ := Lib.hid hsz
        change x.length ≤ 1000 at hp
        clear hz hsz
        go_wp2_with fail
        refine (cost_any _ (bs x) HSZ.out).mono ?_
        rintro e w2 ⟨rfl, hb2⟩
        rw [HZ.out]
        have HB3 := Lib.hid (HB2.out.trans (hb2.mono HB2.out.size))
        clear hb2
        go_wp2_with fail
        go_roundw
        case rel => exact ⟨j + 1, q + z, by omega, by go_num, by go_num, Lib.hid (by rw [HT2.out, ← HQ.out]), HB3⟩
        case measure => simp [intOf]; omega
    · have HE : Hid (pcost (ps.take j) = pcost ps) := Lib.hid (by rw [List.take_of_length_le (by rw [HL.out]; omega)])
      go_wp2_with fail
      go_ret
      exact ⟨ret_int (by rw [HQ.out, HE.out]), HB.out⟩

end Go.Proofs.YtpfkkmjodhpkoaaDoor
