/- Contracts of layer 7's reference: Cost, Join, Same. -/
import Derived.Test.YteamolaoakhaiaaDoorAbbE
import Derived.Test.YteamolaoakhaiaaDoorPcs
namespace Go.Proofs.YteamolaoakhaiaaDoor
open Go.RowKit

theorem pcost_take {ps : List Pc} {j : Nat} (h : j < ps.length) : pcost (ps.take (j + 1)) = pcost (ps.take j) + if 0 < (ps[j]?.getD ([], 0)).2 then 2 else costL (ps[j]?.getD ([], 0)).1 := by
  rw [List.take_succ_eq_append_getElem h, pcost_append]
  have e : ps[j]?.getD ([], 0) = ps[j] := by rw [List.getElem?_eq_getElem h]; rfl
  rw [e]
  unfold pcost
  simp

/-- pieces with texts of at most so many bytes -/
def ShortP (m : Nat) (ps : List Pc) : Prop := ∀ j : Nat, (ps[j]?.getD ([], 0)).1.length ≤ m

theorem pcost_le {ps : List Pc} {m : Nat} (hs : ShortP m ps) (j : Nat) : pcost (ps.take j) ≤ (3 * m + 2) * j := by
  induction j with
  | zero => simp [pcost]
  | succ j ih =>
    by_cases h : j < ps.length
    · rw [pcost_take h, Nat.mul_add, Nat.mul_one]
      have h1 := costL_le (ps[j]?.getD ([], 0)).1
      have h2 := hs j
      split <;> omega
    · rw [List.take_of_length_le (by omega)]
      rw [List.take_of_length_le (by omega)] at ih
      exact Nat.le_trans ih (Nat.mul_le_mul_left _ (by omega))

set_option maxRecDepth 100000 in
set_option maxHeartbeats 3200000 in
theorem rPCost_any (w : World) (B : Nat) (A : Option Addr) (n c : Nat) (ps : List Pc) (V : Value) (h : RdP w B A n ps) (hB : B ≤ w.heap.size) (hs : ShortP 1000 ps) (hn : (n : Int) ≤ 10000) :
    Calls Tryd.prog 18 #[.slice A n c, V] w fun e w' => e = .returned (.int .i64 (pcost ps : Nat)) ∧ Below w.heap.size w w' := by
  have H := Lib.hid h
  have HL := Lib.hid h.1
  have HS := Lib.hid hs
  clear h hs
  go_enter Tryd.func18, Tryd.ntmps18
  go_wp2_with fail
  go_loopw [5, 10] (fun v i wr => ∃ (j q : Nat), j ≤ n ∧ i = .int .i64 j ∧ v = .int .i64 q ∧ Hid (q = pcost (ps.take j)) ∧ Hid (Below w.heap.size w wr)) (fun _ i _ => n - (intOf i).toNat)
  case atStart => exact ⟨0, 0, by omega, rfl, rfl, Lib.hid rfl, Lib.hid (Below.refl _ _)⟩
  case round =>
    obtain ⟨j, q, hj, rfl, rfl, HQ, HB⟩ := hrel
    by_cases hlt : j < n
    · obtain ⟨ad, rfl, hab, hcell⟩ := H.out.2 (by omega)
      have k1 := (HB.out.cell (p := ad.add (j * 2)) (by rw [blk_add]; omega)).trans (hcell j (by rw [HL.out]; exact hlt)).1
      have k2 := (HB.out.cell (p := ⟨(ad.add (j * 2)).block, (ad.add (j * 2)).off + 1, none⟩) (by show (ad.add (j * 2)).block < _; rw [blk_add]; omega)).trans (hcell j (by rw [HL.out]; exact hlt)).2
      have hq : q ≤ 30020000 := by
        have h1 := pcost_le HS.out j
        rw [← HQ.out] at h1
        omega
      have HT := Lib.hid (pcost_take (ps := ps) (j := j) (by rw [HL.out]; exact hlt))
      have hp := HS.out j
      obtain ⟨p, hpp⟩ : ∃ p, p = ps[j]?.getD ([], 0) := ⟨_, rfl⟩
      rw [← hpp] at k1 k2 hp HT
      obtain ⟨x, y⟩ := p
      clear hcell hpp
      by_cases hy : 0 < y
      · have HT2 : Hid (pcost (ps.take (j + 1)) = pcost (ps.take j) + 2) := Lib.hid (by rw [HT.out, if_pos hy])
        have HB2 := Lib.hid (HB.out.alloc HB.out.size (.cells #[.string (bs x), .int .i64 y] 39))
        go_wp2_with fail
        go_roundw
        case rel => exact ⟨j + 1, q + 2, by omega, by go_num, by go_num, Lib.hid (by rw [HT2.out, ← HQ.out]), HB2⟩
        case measure => simp [intOf]; omega
      · have HT2 : Hid (pcost (ps.take (j + 1)) = pcost (ps.take j) + costL x) := Lib.hid (by rw [HT.out, if_neg hy])
        have HB2 := Lib.hid (HB.out.alloc HB.out.size (.cells #[.string (bs x), .int .i64 y] 39))
        have hc := costL_le x
        obtain ⟨z, hz⟩ : ∃ z, z = costL x := ⟨_, rfl⟩
        rw [← hz] at HT2 hc
        have HZ : Hid (costL (bs x).data.toList = z) := Lib.hid (by rw [data_bs, hz])
        have hsz : ((bs x).size : Int) ≤ 100000 := by rw [bs_size]; change x.length ≤ 1000 at hp; omega
        have HSZ := Lib.hid hsz
        change x.length ≤ 1000 at hp
        clear hz hsz
        go_wp2_with fail
        refine (rcost_any _ (bs x) HSZ.out).mono ?_
        rintro e w2 ⟨rfl, hb2⟩
        rw [HZ.out]
        have HB3 := Lib.hid (HB2.out.trans (hb2.mono HB2.out.size))
        clear hb2
        go_wp2_with fail
        go_roundw
        case rel => exact ⟨j + 1, q + z, by omega, by go_num, by go_num, Lib.hid (by rw [HT2.out, ← HQ.out]), HB3⟩
        case measure => simp [intOf]; omega
    · have HE : Hid (pcost (ps.take j) = pcost ps) := Lib.hid (by rw [List.take_of_length_le (by rw [HL.out]; omega)])
      go_wp2_with fail
      go_ret
      exact ⟨ret_int (by rw [HQ.out, HE.out]), HB.out⟩

end Go.Proofs.YteamolaoakhaiaaDoor
