/- Contracts of layer 7's reference: Count, Saves, Best, Without, Choose. -/
import Derived.Test.YtpfkkmjodhpkoaaDoorAbbP
import Derived.Test.YtpfkkmjodhpkoaaDoorAlpR
import Derived.Test.YtpfkkmjodhpkoaaDoorStrA
namespace Go.Proofs.YtpfkkmjodhpkoaaDoor
open Go.RowKit
set_option linter.unusedVariables false

/-- a place of a text, held against a row -/
theorem cmp_at (P R : ByteArray) (k : Nat) : ((P.extract k (k + R.size)).toList == R.toList) = isPre R.data.toList (P.data.toList.drop k) := by
  have hl : R.data.toList.length = R.size := by rw [Array.length_toList]; rfl
  have e : (P.extract k (k + R.size)).toList = (P.data.toList.drop k).take R.size := by
    rw [Lib.toList_data, ByteArray.data_extract, Array.toList_extract, List.extract_eq_take_drop, show k + R.size - k = R.size from by omega]
  rw [e, Lib.toList_data, Bool.eq_iff_iff, beq_iff_eq, isPre_iff, hl]

theorem cnt_take {row : List UInt8} {ls : List (List UInt8)} {j : Nat} (h : j < ls.length) : cnt row (ls.take (j + 1)) = cnt row (ls.take j) + cnt1 row (ls[j]?.getD []) := by
  rw [List.take_succ_eq_append_getElem h]
  unfold cnt
  rw [List.map_append, List.sum_append]
  simp [h]

theorem cnt1_eq (row s : List UInt8) : cnt1 row s = cntA row s := rfl

/-- texts of at most so many bytes each -/
def Short_ (m : Nat) (ls : List (List UInt8)) : Prop := ∀ j : Nat, (ls[j]?.getD []).length ≤ m

theorem cnt_le {row : List UInt8} (hr : row ≠ []) {ls : List (List UInt8)} {m : Nat} (hs : Short_ m ls) (j : Nat) : cnt row (ls.take j) ≤ m * j := by
  induction j with
  | zero => simp [cnt]
  | succ j ih =>
    by_cases h : j < ls.length
    · rw [cnt_take h, cnt1_eq]
      have h1 := cntA_le row hr _ _ (Nat.le_refl (ls[j]?.getD []).length)
      have h2 := hs j
      rw [Nat.mul_add, Nat.mul_one]
      omega
    · rw [List.take_of_length_le (by omega)]
      rw [List.take_of_length_le (by omega)] at ih
      exact Nat.le_trans ih (Nat.mul_le_mul_left _ (by omega))

set_option maxRecDepth 100000 in
set_option maxHeartbeats 3200000 in
theorem rCount_any (w : World) (B : Nat) (A : Option Addr) (n c : Nat) (ls : List (List UInt8)) (R : ByteArray) (h : RdS w B A n ls) (hs : Short_ 1000 ls) (hn : (n : Int) ≤ 10000) (hr : 0 < R.size) (hr2 : (R.size : Int) ≤ 1000) :
    Calls Tryd.prog 80 #[.slice A n c, .string R] w fun e w' => e = .returned (.int .i64 (cnt R.data.toList ls : Nat)) ∧ w = w' := by
  have H := Lib.hid h
  have HL := Lib.hid h.1
  have HS := Lib.hid hs
  have hrl : R.data.toList.length = R.size := by rw [Array.length_toList]; rfl
  have hrne : R.data.toList ≠ [] := by intro e; rw [e, List.length_nil] at hrl; omega
  have HRL := Lib.hid hrl
  have HNE := Lib.hid hrne
  clear h hs hrl hrne
  go_enter Tryd.func80, Tryd.ntmps80
  go_wp2_with fail
  go_loop [5, 11] (fun v i => ∃ (j q : Nat), j ≤ n ∧ i = .int .i64 j ∧ v = .int .i64 q ∧ Hid (q = cnt R.data.toList (ls.take j))) (fun _ i => n - (intOf i).toNat)
  case atStart => exact ⟨0, 0, by omega, rfl, rfl, Lib.hid rfl⟩
  case round =>
    obtain ⟨j, q, hj, rfl, rfl, HQ⟩ := hrel
    by_cases hlt : j < n
    · obtain ⟨ad, rfl, _, hcell⟩ := H.out.2 (by omega)
      have hc := hcell j (by rw [HL.out]; exact hlt)
      have HCT := Lib.hid (cnt_take (row := R.data.toList) (ls := ls) (j := j) (by rw [HL.out]; exact hlt))
      have hq : q ≤ 10000000 := by
        have h1 := cnt_le HNE.out HS.out j
        rw [← HQ.out] at h1
        omega
      have hp := HS.out j
      obtain ⟨P, hP⟩ : ∃ P, P = bs (ls[j]?.getD []) := ⟨_, rfl⟩
      have hPl : P.data.toList = ls[j]?.getD [] := by rw [hP, data_bs]
      have hPs : P.size ≤ 1000 := by rw [hP, bs_size]; exact hp
      rw [← hP] at hc
      rw [← hPl] at HCT
      have hpl : P.data.toList.length = P.size := by rw [Array.length_toList]; rfl
      have HPL := Lib.hid hpl
      clear hcell hp hP hPl hpl
      go_wp2_with fail
      go_loop [5, 8] (fun v i => ∃ (k q2 : Nat), k ≤ P.size ∧ q2 ≤ 10000000 + k ∧ i = .int .i64 k ∧ v = .int .i64 q2 ∧ Hid (q2 + cntA R.data.toList (P.data.toList.drop k) = cnt R.data.toList (ls.take j) + cnt1 R.data.toList P.data.toList)) (fun _ i => P.size - (intOf i).toNat)
      case atStart => exact ⟨0, q, by omega, by omega, rfl, rfl, Lib.hid (by rw [HQ.out]; rfl)⟩
      case round =>
        obtain ⟨k, q2, hk, hq2, rfl, rfl, HK⟩ := hrel
        by_cases hlk : k + R.size ≤ P.size
        · have hcm := cmp_at P R k
          have hdl : (P.data.toList.drop k).length = P.size - k := by rw [List.length_drop, HPL.out]
          by_cases hb : isPre R.data.toList (P.data.toList.drop k) = true
          · have HK2 : Hid (q2 + 1 + cntA R.data.toList (P.data.toList.drop (k + R.size)) = cnt R.data.toList (ls.take j) + cnt1 R.data.toList P.data.toList) := Lib.hid (by
              have h1 := HK.out
              rw [cntA_hit HNE.out hb, HRL.out, List.drop_drop] at h1
              omega)
            rw [hb] at hcm
            clear hb hdl HK
            go_wp2_with fail
            go_round
            case rel => exact ⟨k + R.size, q2 + 1, by omega, by omega, by go_num, by go_num, HK2⟩
            case measure => simp [intOf]; omega
          · rw [Bool.not_eq_true] at hb
            have HK2 : Hid (q2 + cntA R.data.toList (P.data.toList.drop (k + 1)) = cnt R.data.toList (ls.take j) + cnt1 R.data.toList P.data.toList) := Lib.hid (by
              have h1 := HK.out
              rw [cntA_miss HNE.out (by rw [HRL.out, hdl]; omega) hb, List.drop_drop] at h1
              exact h1)
            rw [hb] at hcm
            clear hb hdl HK
            go_wp2_with fail
            go_round
            case rel => exact ⟨k + 1, q2, by omega, by omega, by go_num, rfl, HK2⟩
            case measure => simp [intOf]; omega
        · have HK2 : Hid (q2 = cnt R.data.toList (ls.take (j + 1))) := Lib.hid (by
            have h1 := HK.out
            rw [cntA_short (by rw [List.length_drop, HPL.out, HRL.out]; omega)] at h1
            rw [HCT.out]
            omega)
          go_wp2_with fail
          go_round
          case rel => exact ⟨j + 1, q2, by omega, by go_num, rfl, HK2⟩
          case measure => simp [intOf]; omega
    · have HE : Hid (cnt R.data.toList (ls.take j) = cnt R.data.toList ls) := Lib.hid (by rw [List.take_of_length_le (by rw [HL.out]; omega)])
      go_wp2_with fail
      go_ret
      exact ⟨ret_int (by rw [HQ.out, HE.out]), rfl⟩

theorem cnt_bound {row : List UInt8} (hr : row ≠ []) {ls : List (List UInt8)} {m : Nat} (hs : Short_ m ls) : cnt row ls ≤ m * ls.length := by
  have h := cnt_le hr hs ls.length
  rwa [List.take_length] at h

theorem saves_fit {ls : List (List UInt8)} {row : List UInt8} (hr : row ≠ []) (hs : Short_ 1000 ls) (hl : ls.length ≤ 10000) (h2 : row.length ≤ 1000) : ∃ z, z = ((costL row : Int) - 2) * (cnt row ls : Int) ∧ -100000000 ≤ z ∧ z ≤ 100000000000 := by
  refine ⟨_, rfl, ?_, ?_⟩
  · have h := cnt_bound hr hs
    have h3 : cnt row ls ≤ 10000000 := Nat.le_trans h (Nat.mul_le_mul_left 1000 hl)
    have h4 : (-2 : Int) * (cnt row ls : Int) ≤ ((costL row : Int) - 2) * (cnt row ls : Int) := Int.mul_le_mul_of_nonneg_right (by omega) (by omega)
    omega
  · have h := cnt_bound hr hs
    have h3 : cnt row ls ≤ 10000000 := Nat.le_trans h (Nat.mul_le_mul_left 1000 hl)
    have hc := costL_le row
    have h4 : ((costL row : Int) - 2) * (cnt row ls : Int) ≤ 3000 * (cnt row ls : Int) := Int.mul_le_mul_of_nonneg_right (by omega) (by omega)
    omega

set_option maxRecDepth 100000 in
set_option maxHeartbeats 1600000 in
theorem rSaves_any (w : World) (B : Nat) (A : Option Addr) (n c : Nat) (ls : List (List UInt8)) (R : ByteArray) (h : RdS w B A n ls) (hB : B ≤ w.heap.size) (hs : Short_ 1000 ls) (hn : (n : Int) ≤ 10000) (hr : 0 < R.size) (hr2 : (R.size : Int) ≤ 1000) :
    Calls Tryd.prog 70 #[.slice A n c, .string R] w fun e w' => e = .returned (.int .i64 (savesI ls R.data.toList)) ∧ Below w.heap.size w w' := by
  have hrl : R.data.toList.length = R.size := by rw [Array.length_toList]; rfl
  have hrne : R.data.toList ≠ [] := by intro e; rw [e, List.length_nil] at hrl; omega
  obtain ⟨z, hz, hz1, hz2⟩ := saves_fit hrne hs (by rw [h.1]; omega) (by omega : R.data.toList.length ≤ 1000)
  have hc := costL_le R.data.toList
  rw [hrl] at hc
  obtain ⟨x, hx⟩ : ∃ x, x = costL R.data.toList := ⟨_, rfl⟩
  obtain ⟨q, hq⟩ : ∃ q, q = cnt R.data.toList ls := ⟨_, rfl⟩
  have HF : Hid (savesI ls R.data.toList = z - (x : Int)) := Lib.hid (by unfold savesI; rw [hz, hx])
  rw [← hx, ← hq] at hz
  rw [← hx] at hc
  have hz' := hz.symm
  have HX := Lib.hid hx.symm
  have HQ := Lib.hid hq.symm
  have H := Lib.hid h
  have HS := Lib.hid hs
  clear hz h hs hx hq hrl hrne
  go_enter Tryd.func70, Tryd.ntmps70
  go_wp2_with fail
  refine (rcost_any w R (by omega)).mono ?_
  rintro e w1 ⟨rfl, hb1⟩
  rw [HX.out]
  have HB1 := Lib.hid hb1
  clear hb1
  go_wp2_with fail
  refine (rCount_any w1 B A n c ls R (H.out.keep fun p hp => HB1.out.cell (Nat.lt_of_lt_of_le hp hB)) HS.out hn hr hr2).mono ?_
  rintro e w2 ⟨rfl, rfl⟩
  rw [HQ.out]
  go_wp2_with fail
  go_ret
  exact ⟨ret_int HF.out.symm, HB1.out⟩

abbrev BSt := List UInt8 × Int

/-- behind so many texts; so many places of one; so many rows at one -/
def st1 (ls : List (List UInt8)) (j : Nat) : BSt := bestP ls (ls.take j) ([], 0)
def st2 (ls : List (List UInt8)) (b : BSt) (p : List UInt8) (i : Nat) : BSt := ((List.range i).flatMap (rowsAt p)).foldl (stepB ls) b
def st3 (ls : List (List UInt8)) (b : BSt) (p : List UInt8) (i m : Nat) : BSt := ((List.range' 2 m).map fun n => (p.drop i).take n).foldl (stepB ls) b

theorem st1_succ {ls : List (List UInt8)} {j : Nat} (h : j < ls.length) : st1 ls (j + 1) = st2 ls (st1 ls j) (ls[j]?.getD []) (ls[j]?.getD []).length := by
  unfold st1 bestP st2
  rw [List.take_succ_eq_append_getElem h, List.flatMap_append, List.foldl_append]
  simp [h, rowsOf]

theorem st2_succ (ls : List (List UInt8)) (b : BSt) (p : List UInt8) (i : Nat) : st2 ls b p (i + 1) = st3 ls (st2 ls b p i) p i (min 7 (p.length - i - 1)) := by
  unfold st2 st3
  rw [List.range_succ, List.flatMap_append, List.foldl_append]
  simp [rowsAt]

theorem st3_succ (ls : List (List UInt8)) (b : BSt) (p : List UInt8) (i m : Nat) : st3 ls b p i (m + 1) = stepB ls (st3 ls b p i m) ((p.drop i).take (m + 2)) := by
  unfold st3
  rw [List.range'_concat, List.map_append, List.foldl_append]
  simp [Nat.add_comm]

/-- a state in memory: the best row, what it saves -/
def Held_ (b : BSt) (v : ByteArray) (m : Int) : Prop := v.data.toList = b.1 ∧ m = b.2

theorem held_yes {ls : List (List UInt8)} {st : BSt} {b R : ByteArray} {m : Int} (h : Held_ st b m) (hb : better ls R.data.toList b.data.toList m = true) : Held_ (stepB ls st R.data.toList) R (savesI ls R.data.toList) := by
  unfold stepB
  rw [← h.1, ← h.2, if_pos hb]
  exact ⟨rfl, rfl⟩

theorem held_no {ls : List (List UInt8)} {st : BSt} {b R : ByteArray} {m : Int} (h : Held_ st b m) (hb : better ls R.data.toList b.data.toList m = false) : Held_ (stepB ls st R.data.toList) b m := by
  unfold stepB
  rw [← h.1, ← h.2, if_neg (by rw [hb]; decide)]
  exact h

theorem better_eq (ls : List (List UInt8)) (R b : ByteArray) (m : Int) : better ls R.data.toList b.data.toList m =
    (decide (m < savesI ls R.data.toList) || (decide (savesI ls R.data.toList = m) && decide (0 < savesI ls R.data.toList) && (decide (b.size < R.size) || (decide (R.size = b.size) && Op.bytesLess R.toList b.toList)))) := by
  have h1 : R.data.toList.length = R.size := by rw [Array.length_toList]; rfl
  have h2 : b.data.toList.length = b.size := by rw [Array.length_toList]; rfl
  unfold better ltB
  rw [h1, h2, Lib.toList_data, Lib.toList_data]

set_option maxRecDepth 100000 in
set_option maxHeartbeats 12800000 in
theorem rBest_any (w : World) (B : Nat) (A : Option Addr) (n c : Nat) (ls : List (List UInt8)) (h : RdS w B A n ls) (hB : B ≤ w.heap.size) (hs : Short_ 1000 ls) (hn : (n : Int) ≤ 10000) :
    Calls Tryd.prog 46 #[.slice A n c] w fun e w' => e = .returned (.string (bs (bestL ls))) ∧ Below w.heap.size w w' := by
  have H := Lib.hid h
  have HL := Lib.hid h.1
  have HS := Lib.hid hs
  clear h hs
  go_enter Tryd.func46, Tryd.ntmps46
  go_wp2_with fail
  go_loopw [3, 4, 13] (fun v z i wr => ∃ (j : Nat) (b : ByteArray) (m : Int), j ≤ n ∧ i = .int .i64 j ∧ v = .string b ∧ z = .int .i64 m ∧ (b.size : Int) ≤ 8 ∧ Hid (Held_ (st1 ls j) b m) ∧ Hid (Below w.heap.size w wr)) (fun _ _ i _ => n - (intOf i).toNat)
  case atStart => exact ⟨0, ⟨#[]⟩, 0, by omega, rfl, rfl, rfl, by decide, Lib.hid ⟨rfl, rfl⟩, Lib.hid (Below.refl _ _)⟩
  case round =>
    obtain ⟨j, b, m, hj, rfl, rfl, rfl, hb8, HB, HW⟩ := hrel
    by_cases hlt : j < n
    · obtain ⟨ad, rfl, hab, hcell⟩ := H.out.2 (by omega)
      have hc := (HW.out.cell (p := ad.add j) (by rw [blk_add]; omega)).trans (hcell j (by rw [HL.out]; exact hlt))
      have HST := Lib.hid (st1_succ (ls := ls) (j := j) (by rw [HL.out]; exact hlt))
      have hp := HS.out j
      obtain ⟨P, hP⟩ : ∃ P, P = bs (ls[j]?.getD []) := ⟨_, rfl⟩
      have hPl : P.data.toList = ls[j]?.getD [] := by rw [hP, data_bs]
      have hPs : (P.size : Int) ≤ 1000 := by rw [hP, bs_size]; omega
      rw [← hP] at hc
      rw [← hPl] at HST
      have hpl : P.data.toList.length = P.size := by rw [Array.length_toList]; rfl
      have HPL := Lib.hid hpl
      clear hcell hp hP hPl hpl
      go_wp2_with fail
      clear hc
      go_loopw [3, 4, 7] (fun v z k wi => ∃ (i : Nat) (b : ByteArray) (m : Int), i ≤ P.size ∧ k = .int .i64 i ∧ v = .string b ∧ z = .int .i64 m ∧ (b.size : Int) ≤ 8 ∧ Hid (Held_ (st2 ls (st1 ls j) P.data.toList i) b m) ∧ Hid (Below w.heap.size w wi)) (fun _ _ k _ => P.size - (intOf k).toNat)
      case atStart => exact ⟨0, b, m, by omega, rfl, rfl, rfl, hb8, HB, HW⟩
      case round =>
        clear hb8 HB HW
        obtain ⟨i, b, m, hi, rfl, rfl, rfl, hb8, HB, HW⟩ := hrel
        by_cases hlt2 : i < P.size
        · go_wp2_with fail
          go_loopw [3, 4, 8] (fun v z k wi => ∃ (q : Nat) (b : ByteArray) (m : Int), 2 ≤ q ∧ (q : Int) ≤ 9 ∧ (i + q ≤ P.size + 1 ∨ q = 2) ∧ k = .int .i64 q ∧ v = .string b ∧ z = .int .i64 m ∧ (b.size : Int) ≤ 8 ∧ Hid (Held_ (st3 ls (st2 ls (st1 ls j) P.data.toList i) P.data.toList i (q - 2)) b m) ∧ Hid (Below w.heap.size w wi)) (fun _ _ k _ => 9 - (intOf k).toNat)
          case atStart => exact ⟨2, b, m, by omega, by omega, .inr rfl, rfl, rfl, rfl, hb8, HB, HW⟩
          case round =>
            clear hb8 HB HW
            obtain ⟨q, b, m, hq2, hq9, hqi, rfl, rfl, rfl, hb8, HB, HW⟩ := hrel
            by_cases hlt3 : (q : Int) ≤ 8 ∧ i + q ≤ P.size
            · obtain ⟨h8, hiq⟩ := hlt3
              have HR := Lib.hid (st3_succ ls (st2 ls (st1 ls j) P.data.toList i) P.data.toList i (q - 2))
              have hRs : (P.extract i (i + q)).size = q := by rw [ByteArray.size_extract]; omega
              have hRl : (P.extract i (i + q)).data.toList = (P.data.toList.drop i).take (q - 2 + 2) := by
                rw [ByteArray.data_extract, Array.toList_extract, List.extract_eq_take_drop, show i + q - i = q - 2 + 2 from by omega]
              rw [← hRl] at HR
              have HRS := Lib.hid hRs
              clear hRl hRs
              go_wp2_with fail
              refine (rSaves_any _ B _ n c ls (P.extract i (i + q)) (H.out.keep fun p hp => HW.out.cell (Nat.lt_of_lt_of_le hp hB)) (Nat.le_trans hB HW.out.size) HS.out hn (by rw [HRS.out]; omega) (by rw [HRS.out]; omega)).mono ?_
              rintro e w2 ⟨rfl, hb2⟩
              have HW2 := Lib.hid (HW.out.trans (hb2.mono HW.out.size))
              have hbe := better_eq ls (P.extract i (i + q)) b m
              have hy := fun h => held_yes (ls := ls) (R := P.extract i (i + q)) HB.out h
              have hno := fun h => held_no (ls := ls) (R := P.extract i (i + q)) HB.out h
              have hRs := HRS.out
              rw [hRs] at hbe
              obtain ⟨s, hsv⟩ : ∃ s, s = savesI ls (P.extract i (i + q)).data.toList := ⟨_, rfl⟩
              rw [← hsv] at hbe hy ⊢
              have HY := Lib.hid hy
              have HN := Lib.hid hno
              clear hb2 hsv hy hno
              have hq1 : q + 1 - 2 = q - 2 + 1 := by omega
              have HQ1 := Lib.hid hq1
              clear hq1
              have fin1 : ∀ (h : better ls (P.extract i (i + q)).data.toList b.data.toList m = true), Hid (Held_ (st3 ls (st2 ls (st1 ls j) P.data.toList i) P.data.toList i (q + 1 - 2)) (P.extract i (i + q)) s) := fun h => Lib.hid (by rw [HQ1.out, HR.out]; exact HY.out h)
              have fin0 : ∀ (h : better ls (P.extract i (i + q)).data.toList b.data.toList m = false), Hid (Held_ (st3 ls (st2 ls (st1 ls j) P.data.toList i) P.data.toList i (q + 1 - 2)) b m) := fun h => Lib.hid (by rw [HQ1.out, HR.out]; exact HN.out h)
              by_cases e0 : m < s
              · have F := fin1 (by rw [hbe]; simp [e0])
                clear fin1 fin0 hbe
                go_wp2_with fail
                go_roundw
                case rel => exact ⟨q + 1, _, s, by omega, by omega, by omega, by go_num, rfl, rfl, by rw [HRS.out]; omega, F, HW2⟩
                case measure => simp [intOf]; omega
              · by_cases e1 : s = m
                · have t1 : (s == m) = true := by simpa using e1
                  by_cases e2 : 0 < s
                  · by_cases e3 : b.size < q
                    · have F := fin1 (by have e2m : 0 < m := by omega
                                         rw [hbe]; simp [e1, e2m, e3])
                      clear fin1 fin0 hbe e1
                      go_wp2_with fail
                      go_roundw
                      case rel => exact ⟨q + 1, _, s, by omega, by omega, by omega, by go_num, rfl, rfl, by rw [HRS.out]; omega, F, HW2⟩
                      case measure => simp [intOf]; omega
                    · by_cases e4 : q = b.size
                      · have t2 : ((q : Int) == (b.size : Int)) = true := by rw [beq_iff_eq]; omega
                        cases e5 : Op.bytesLess (P.extract i (i + q)).toList b.toList with
                        | true =>
                          have F := fin1 (by have e2m : 0 < m := by omega
                                             rw [hbe, e5]; simp [e1, e2m, e4])
                          clear fin1 fin0 hbe e1 e4
                          go_wp2_with fail
                          go_roundw
                          case rel => exact ⟨q + 1, _, s, by omega, by omega, by omega, by go_num, rfl, rfl, by rw [HRS.out]; omega, F, HW2⟩
                          case measure => simp [intOf]; omega
                        | false =>
                          have F := fin0 (by rw [hbe, e5]; simp [e1, e4])
                          clear fin1 fin0 hbe e1 e4
                          go_wp2_with fail
                          go_roundw
                          case rel => exact ⟨q + 1, b, m, by omega, by omega, by omega, by go_num, rfl, rfl, hb8, F, HW2⟩
                          case measure => simp [intOf]; omega
                      · have t2 : ((q : Int) == (b.size : Int)) = false := by rw [beq_eq_false_iff_ne]; omega
                        have F := fin0 (by rw [hbe]; simp [e1, e3, e4])
                        clear fin1 fin0 hbe e1 e4
                        go_wp2_with fail
                        go_roundw
                        case rel => exact ⟨q + 1, b, m, by omega, by omega, by omega, by go_num, rfl, rfl, hb8, F, HW2⟩
                        case measure => simp [intOf]; omega
                  · have F := fin0 (by rw [hbe]; simp [e0, e2])
                    clear fin1 fin0 hbe e1
                    go_wp2_with fail
                    go_roundw
                    case rel => exact ⟨q + 1, b, m, by omega, by omega, by omega, by go_num, rfl, rfl, hb8, F, HW2⟩
                    case measure => simp [intOf]; omega
                · have t1 : (s == m) = false := by simpa using e1
                  have F := fin0 (by rw [hbe]; simp [e0, e1])
                  clear fin1 fin0 hbe e1
                  go_wp2_with fail
                  go_roundw
                  case rel => exact ⟨q + 1, b, m, by omega, by omega, by omega, by go_num, rfl, rfl, hb8, F, HW2⟩
                  case measure => simp [intOf]; omega
            · have HE : Hid (Held_ (st2 ls (st1 ls j) P.data.toList (i + 1)) b m) := Lib.hid (by
                rw [st2_succ, HPL.out, show min 7 (P.size - i - 1) = q - 2 from by omega]
                exact HB.out)
              by_cases h8 : (q : Int) ≤ 8
              · have hiq : ¬ ((i : Int) + (q : Int) ≤ (P.size : Int)) := by omega
                clear hlt3
                go_wp2_with fail
                go_roundw
                case rel => exact ⟨i + 1, b, m, by omega, by go_num, rfl, rfl, hb8, HE, HW⟩
                case measure => simp [intOf]; omega
              · clear hlt3
                go_wp2_with fail
                go_roundw
                case rel => exact ⟨i + 1, b, m, by omega, by go_num, rfl, rfl, hb8, HE, HW⟩
                case measure => simp [intOf]; omega
        · obtain rfl : i = P.size := by omega
          have HE : Hid (Held_ (st1 ls (j + 1)) b m) := Lib.hid (by rw [HST.out, HPL.out]; exact HB.out)
          go_wp2_with fail
          go_roundw
          case rel => exact ⟨j + 1, b, m, by omega, by go_num, rfl, rfl, hb8, HE, HW⟩
          case measure => simp [intOf]; omega
    · have HE : Hid (bs (bestL ls) = b) := Lib.hid (by
        have h1 := HB.out.1
        unfold st1 at h1
        rw [List.take_of_length_le (by rw [HL.out]; omega)] at h1
        unfold bestL
        rw [← h1, bs_data])
      go_wp2_with fail
      go_ret
      exact ⟨congrArg (fun x => Ending.returned (Value.string x)) HE.out.symm, HW.out⟩

theorem take_one {p : List UInt8} {k j : Nat} (hj : j ≤ k) (hk : k < p.length) : (p.take k).drop j ++ (p.drop k).take 1 = (p.take (k + 1)).drop j := by
  rw [List.take_succ_eq_append_getElem hk, List.drop_append_of_le_length (by rw [List.length_take]; omega), List.drop_eq_getElem_cons hk]
  rfl

theorem splA_end {row : List UInt8} {p : List UInt8} {k j : Nat} (hj : j ≤ k) (h : (p.drop k).length < row.length) : splA row ((p.take k).drop j) (p.drop k) = [p.drop j] := by
  rw [splA_short h]
  congr 1
  by_cases hk : k ≤ p.length
  · have e := List.take_append_drop k p
    conv => rhs; rw [← e]
    rw [List.drop_append_of_le_length (by rw [List.length_take]; omega)]
  · rw [List.take_of_length_le (by omega), List.drop_of_length_le (l := p) (i := k) (by omega), List.append_nil]

theorem flat_spl {row : List UInt8} {ls : List (List UInt8)} {j : Nat} (h : j < ls.length) : (ls.take (j + 1)).flatMap (spl row) = (ls.take j).flatMap (spl row) ++ spl row (ls[j]?.getD []) := by
  rw [List.take_succ_eq_append_getElem h, List.flatMap_append]
  simp [h]

theorem ext_bs (P : ByteArray) (a b : Nat) : P.extract a b = bs ((P.data.toList.take b).drop a) := by
  apply ByteArray.ext
  apply Array.toList_inj.1
  rw [ByteArray.data_extract, Array.toList_extract, data_bs, List.extract_eq_take_drop, List.drop_take]

theorem spl_len (row : List UInt8) (hr : row ≠ []) (s : List UInt8) : (spl row s).length ≤ s.length + 1 := by
  have h1 := cntA_le row hr _ s (Nat.le_refl _)
  unfold cntA at h1
  rw [spl_eq]
  omega

theorem flat_len {row : List UInt8} (hr : row ≠ []) {ls : List (List UInt8)} {m : Nat} (hs : Short_ m ls) (j : Nat) : ((ls.take j).flatMap (spl row)).length ≤ (m + 1) * j := by
  induction j with
  | zero => simp
  | succ j ih =>
    by_cases h : j < ls.length
    · rw [flat_spl h, List.length_append]
      have h1 := spl_len row hr (ls[j]?.getD [])
      have h2 := hs j
      rw [Nat.mul_add, Nat.mul_one]
      omega
    · rw [List.take_of_length_le (by omega)]
      rw [List.take_of_length_le (by omega)] at ih
      exact Nat.le_trans ih (Nat.mul_le_mul_left _ (by omega))

set_option maxRecDepth 100000 in
set_option maxHeartbeats 6400000 in
theorem rWithout_any (w : World) (B : Nat) (A : Option Addr) (n c : Nat) (ls : List (List UInt8)) (R : ByteArray) (h : RdS w B A n ls) (hB : B ≤ w.heap.size) (hs : Short_ 1000 ls) (hn : (n : Int) ≤ 10000) (hr : 0 < R.size) (hr2 : (R.size : Int) ≤ 1000) :
    Calls Tryd.prog 47 #[.slice A n c, .string R] w (OutS w.heap.size 9 w (ls.flatMap (spl R.data.toList))) := by
  obtain ⟨i0, hi, hz0, hsz, hby⟩ := inf_parts Tryd.inf_str
  have HI := Lib.hid hi
  have HZ0 := Lib.hid hz0
  have HSZ := Lib.hid hsz
  have HBY := Lib.hid hby
  have H := Lib.hid h
  have HL := Lib.hid h.1
  have HS := Lib.hid hs
  have hrl : R.data.toList.length = R.size := by rw [Array.length_toList]; rfl
  have hrne : R.data.toList ≠ [] := by intro e; rw [e, List.length_nil] at hrl; omega
  have HRL := Lib.hid hrl
  have HNE := Lib.hid hrne
  clear hi hz0 hsz hby h hs hrl hrne
  go_enter Tryd.func47, Tryd.ntmps47
  go_wp2_with fail
  go_loopw [5, 12] (fun v i wr => ∃ (A5 : Option Addr) (n5 c5 j : Nat), j ≤ n ∧ i = .int .i64 j ∧ v = .slice A5 n5 c5 ∧ Hid (wr.ownsRow w.heap.size 9 1 (.slice A5 n5 c5) n5 (sc ((ls.take j).flatMap (spl R.data.toList)))) ∧ Hid (Below w.heap.size w wr)) (fun _ i _ => n - (intOf i).toNat)
  case atStart => exact ⟨none, 0, 0, 0, by omega, rfl, rfl, Lib.hid (ownS_nil _ _ _), Lib.hid (Below.refl _ _)⟩
  case round =>
    obtain ⟨A5, n5, c5, j, hj, rfl, rfl, HO, HB⟩ := hrel
    by_cases hlt : j < n
    · obtain ⟨ad, rfl, hab, hcell⟩ := H.out.2 (by omega)
      have hc := (HB.out.cell (p := ad.add j) (by rw [blk_add]; omega)).trans (hcell j (by rw [HL.out]; exact hlt))
      have HFS := Lib.hid (flat_spl (row := R.data.toList) (ls := ls) (j := j) (by rw [HL.out]; exact hlt))
      have hfl := flat_len HNE.out HS.out j
      have hn5 := ownS_len HO.out
      have hp := HS.out j
      obtain ⟨P, hP⟩ : ∃ P, P = bs (ls[j]?.getD []) := ⟨_, rfl⟩
      have hPl : P.data.toList = ls[j]?.getD [] := by rw [hP, data_bs]
      have hPs : P.size ≤ 1000 := by rw [hP, bs_size]; exact hp
      rw [← hP] at hc
      rw [← hPl] at HFS
      have hpl : P.data.toList.length = P.size := by rw [Array.length_toList]; rfl
      have HPL := Lib.hid hpl
      have hn5b : n5 ≤ 10010000 := by
        have : 1001 * j ≤ 1001 * 10000 := Nat.mul_le_mul_left _ (by omega)
        omega
      clear hcell hp hP hPl hpl hfl hn5
      go_wp2_with fail
      clear hc
      go_loopw [5, 8, 9] (fun v f k wi => ∃ (A6 : Option Addr) (n6 c6 i g : Nat) (ps : List (List UInt8)), i ≤ P.size ∧ g ≤ i ∧ n6 ≤ n5 + i ∧ k = .int .i64 i ∧ f = .int .i64 g ∧ v = .slice A6 n6 c6 ∧ Hid (ps ++ splA R.data.toList ((P.data.toList.take i).drop g) (P.data.toList.drop i) = spl R.data.toList P.data.toList) ∧ Hid (wi.ownsRow w.heap.size 9 1 (.slice A6 n6 c6) n6 (sc ((ls.take j).flatMap (spl R.data.toList) ++ ps))) ∧ Hid (Below w.heap.size w wi)) (fun _ _ k _ => P.size - (intOf k).toNat)
      case atStart => exact ⟨A5, n5, c5, 0, 0, [], by omega, by omega, by omega, rfl, rfl, rfl, Lib.hid rfl, Lib.hid (by rw [List.append_nil]; exact HO.out), HB⟩
      case round =>
        obtain ⟨A6, n6, c6, i, g, ps, hi, hg, hn6, rfl, rfl, rfl, HPS, HO6, HB6⟩ := hrel
        have hz := HB6.out.size
        by_cases hlk : i + R.size ≤ P.size
        · have hcm := cmp_at P R i
          have hdl : (P.data.toList.drop i).length = P.size - i := by rw [List.length_drop, HPL.out]
          by_cases hb : isPre R.data.toList (P.data.toList.drop i) = true
          · have HK2 : Hid ((ps ++ [(P.data.toList.take i).drop g]) ++ splA R.data.toList ((P.data.toList.take (i + R.size)).drop (i + R.size)) (P.data.toList.drop (i + R.size)) = spl R.data.toList P.data.toList) := Lib.hid (by
              have h1 := HPS.out
              rw [splA_hit HNE.out hb, HRL.out, List.drop_drop] at h1
              rw [List.drop_of_length_le (l := P.data.toList.take (i + R.size)) (by rw [List.length_take]; omega), List.append_assoc]
              exact h1)
            have hex := ext_bs P g i
            rw [hb] at hcm
            clear hb hdl HPS
            go_wp2_with (at_builtin; refine wpList_app1 _ rfl _ _ 22 rfl w.heap.size 9 i0 _ 16 Tryd.underlying22 HI.out HZ0.out HSZ.out HBY.out rfl _ n6 _ rfl (HO6.out.alloc _) ⟨_, 0, none⟩ 1 (.string (bs ((P.data.toList.take i).drop g))) rfl (new_cell _ _ _) rfl (by omega) (by unfold maxLen; omega) (by simp; omega) ?_; intro A7 c7 w8 hown2 hg2)
            have HO7 := Lib.hid hown2
            have HB7 := Lib.hid (app_below HO6.out HB6.out hg2)
            clear hown2 hg2 hex hcm
            go_roundw
            case rel => exact ⟨A7, n6 + 1, c7, i + R.size, i + R.size, ps ++ [(P.data.toList.take i).drop g], by omega, by omega, by omega, by go_num, by go_num, rfl, HK2, Lib.hid (by rw [← List.append_assoc, sc_snoc]; exact HO7.out), HB7⟩
            case measure => simp [intOf]; omega
          · rw [Bool.not_eq_true] at hb
            have HK2 : Hid (ps ++ splA R.data.toList ((P.data.toList.take (i + 1)).drop g) (P.data.toList.drop (i + 1)) = spl R.data.toList P.data.toList) := Lib.hid (by
              have h1 := HPS.out
              rw [splA_miss HNE.out (by rw [HRL.out, hdl]; omega) hb, List.drop_drop, take_one hg (by rw [HPL.out]; omega)] at h1
              exact h1)
            rw [hb] at hcm
            clear hb hdl HPS
            go_wp2_with fail
            clear hcm
            go_roundw
            case rel => exact ⟨A6, n6, c6, i + 1, g, ps, by omega, by omega, by omega, by go_num, rfl, rfl, HK2, HO6, HB6⟩
            case measure => simp [intOf]; omega
        · have HK2 : Hid (ps ++ [P.data.toList.drop g] = spl R.data.toList P.data.toList) := Lib.hid (by
            have h1 := HPS.out
            rw [splA_end hg (by rw [List.length_drop, HPL.out, HRL.out]; omega)] at h1
            exact h1)
          have hex : P.extract g P.size = bs (P.data.toList.drop g) := by rw [ext_bs, List.take_of_length_le (by rw [HPL.out]; omega)]
          clear HPS
          go_wp2_with (at_builtin; refine wpList_app1 _ rfl _ _ 22 rfl w.heap.size 9 i0 _ 16 Tryd.underlying22 HI.out HZ0.out HSZ.out HBY.out rfl _ n6 _ rfl (HO6.out.alloc _) ⟨_, 0, none⟩ 1 (.string (bs (P.data.toList.drop g))) rfl (new_cell _ _ _) rfl (by omega) (by unfold maxLen; omega) (by simp; omega) ?_; intro A7 c7 w8 hown2 hg2)
          have HO7 := Lib.hid hown2
          have HB7 := Lib.hid (app_below HO6.out HB6.out hg2)
          clear hown2 hg2 hex
          go_roundw
          case rel => exact ⟨A7, n6 + 1, c7, j + 1, by omega, by go_num, rfl, Lib.hid (by rw [HFS.out, ← HK2.out, ← List.append_assoc, sc_snoc]; exact HO7.out), HB7⟩
          case measure => simp [intOf]; omega
    · have HE : Hid (ls.take j = ls) := Lib.hid (List.take_of_length_le (by rw [HL.out]; omega))
      go_wp2_with fail
      go_ret
      have h := HO.out
      rw [HE.out] at h
      exact ⟨A5, n5, c5, rfl, h, HB.out⟩

theorem short_tot {ls : List (List UInt8)} {m : Nat} (h : tot ls ≤ m) : Short_ m ls := fun j => by
  by_cases hj : j < ls.length
  · have e : ls[j]?.getD [] = ls[j] := by rw [List.getElem?_eq_getElem hj]; rfl
    rw [e]
    have := tot_mem (List.getElem_mem hj)
    omega
  · rw [List.getElem?_eq_none (by omega)]
    simp

theorem choose_step {k : Nat} {ps : List (List UInt8)} (h : bestL ps ≠ []) : chooseF (k + 1) ps = bestL ps :: chooseF k (ps.flatMap (spl (bestL ps))) := by
  conv => lhs; unfold chooseF
  rw [if_neg h]

theorem choose_stop {k : Nat} {ps : List (List UInt8)} (h : bestL ps = []) : chooseF k ps = [] := by
  cases k with
  | zero => rfl
  | succ k => unfold chooseF; rw [if_pos h]

theorem short_of_mem {ls : List (List UInt8)} {m : Nat} (h : ∀ p ∈ ls, p.length ≤ m) : Short_ m ls := fun j => by
  by_cases hj : j < ls.length
  · have e : ls[j]?.getD [] = ls[j] := by rw [List.getElem?_eq_getElem hj]; rfl
    rw [e]
    exact h _ (List.getElem_mem hj)
  · rw [List.getElem?_eq_none (by omega)]
    simp

theorem Short_.mem {ls : List (List UInt8)} {m : Nat} (h : Short_ m ls) {p : List UInt8} (hp : p ∈ ls) : p.length ≤ m := by
  obtain ⟨j, hj, rfl⟩ := List.getElem_of_mem hp
  have := h j
  rw [List.getElem?_eq_getElem hj] at this
  exact this

theorem short_flat {row : List UInt8} (hr : row ≠ []) {ls : List (List UInt8)} {m : Nat} (h : Short_ m ls) : Short_ m (ls.flatMap (spl row)) := short_of_mem fun p hp => by
  obtain ⟨q, hq, hp⟩ := List.mem_flatMap.1 hp
  have h1 := tot_mem hp
  have h2 := (splA_tot hr [] q).2
  rw [spl_eq] at h1
  rw [List.nil_append] at h2
  have := h.mem hq
  omega

def slLen7 : Value → Nat
  | .slice _ n _ => n
  | _ => 0

set_option maxRecDepth 100000 in
set_option maxHeartbeats 6400000 in
theorem rChoose_any (w : World) (A : Option Addr) (n c : Nat) (ls : List (List UInt8)) (most : Int) (h : RdS w w.heap.size A n ls) (ht : n + tot ls ≤ 10000) (hsh0 : Short_ 1000 ls) :
    Calls Tryd.prog 25 #[.slice A n c, .int .i64 most] w (OutS w.heap.size 9 w (chooseL ls most)) := by
  obtain ⟨i0, hi, hz0, hsz, hby⟩ := inf_parts Tryd.inf_str
  have HI := Lib.hid hi
  have HZ0 := Lib.hid hz0
  have HSZ := Lib.hid hsz
  have HBY := Lib.hid hby
  have HL := Lib.hid h.1
  obtain ⟨K, hK⟩ : ∃ K, K = (min most 32).toNat := ⟨_, rfl⟩
  have HF : Hid (chooseL ls most = chooseF K ls) := Lib.hid (by rw [hK]; rfl)
  have HKK := Lib.hid hK
  have hrd := h.alloc (Nat.le_refl _) (.cells #[] 9)
  have HRD := Lib.hid hrd
  have hown0 : (w.alloc (.cells #[] 9)).ownsRow w.heap.size 9 1 (.slice (some ⟨w.heap.size, 0, none⟩) 0 0) 0 (sc []) := by
    have h := World.ownsRow_lit (base := w.heap.size) (e := 9) (size := 1) w #[] 0 (Nat.le_refl _) (by unfold maxLen; omega) (by simp)
    simpa [sc] using h
  have HO0 := Lib.hid hown0
  have HSH0 := Lib.hid hsh0
  clear hsh0 hi hz0 hsz hby h hrd hown0 hK
  go_enter Tryd.func25, Tryd.ntmps25
  go_wp2_with (at_builtin; refine wpList_appS _ rfl _ _ 22 rfl w.heap.size 9 i0 Tryd.underlying22 HI.out HZ0.out HSZ.out HBY.out _ 0 _ rfl HO0.out _ _ n c ls rfl HRD.out (by omega) (by simp) ?_; intro A5 c5 w5 hown5 hg5)
  rw [List.nil_append] at hown5
  have hb5 : Below w.heap.size w w5 := ((Below.refl _ _).alloc (Nat.le_refl _) _).grown hg5 (by simp) (own_from HO0.out)
  have HT0 : Hid (TwoS w w5 9 none 0 0 (sc []) A5 (0 + n) ls) := Lib.hid ⟨ownS_nil _ _ _, hb5, RdS.of_own hown5, fun _ _ _ e => by cases e⟩
  clear hown5 hg5 hb5
  go_loopw [5, 6] (fun v i wr => ∃ (A5 : Option Addr) (n5 c5 : Nat) (ps : List (List UInt8)) (A6 : Option Addr) (n6 c6 : Nat) (os : List (List UInt8)), v = .slice A5 n5 c5 ∧ i = .slice A6 n6 c6 ∧ n6 ≤ K ∧ Hid (TwoS w wr 9 A6 n6 c6 (sc os) A5 n5 ps) ∧ Hid (os ++ chooseF (K - n6) ps = chooseF K ls) ∧ Hid (n5 + tot ps ≤ 10000 ∧ Short_ 1000 ps)) (fun _ i _ => K - slLen7 i)
  case atStart => exact ⟨A5, 0 + n, c5, ls, none, 0, 0, [], by simp, rfl, by omega, HT0, Lib.hid rfl, Lib.hid ⟨by omega, HSH0.out⟩⟩
  case round =>
    clear HT0
    obtain ⟨A5, n5, c5, ps, A6, n6, c6, os, rfl, rfl, hn6, HT, HE, HM⟩ := hrel
    by_cases hlt : n6 < K
    · have h32 : (n6 : Int) < 32 := by have := HKK.out; omega
      have hmo : (n6 : Int) < most := by have := HKK.out; omega
      have hsh := HM.out.2
      have HSH := Lib.hid hsh
      have hn5 : n5 ≤ 10000 := by have := HM.out.1; omega
      clear hsh
      go_wp2_with fail
      refine (rBest_any wr wr.heap.size A5 n5 c5 ps HT.out.rd (Nat.le_refl _) HSH.out (by omega)).mono ?_
      rintro e w2 ⟨rfl, hb2⟩
      have HT2 := Lib.hid (HT.out.call hb2)
      have HG := Lib.hid (bestL_good ps)
      obtain ⟨b, hb⟩ : ∃ b, b = bs (bestL ps) := ⟨_, rfl⟩
      have HBD : Hid (b.data.toList = bestL ps) := Lib.hid (by rw [hb, data_bs])
      rw [← hb]
      clear hb2 hb
      have hbl : b.data.toList.length = b.size := by rw [Array.length_toList]; rfl
      by_cases hbe : bestL ps = []
      · have t0 : b.toList.isEmpty = true := by rw [Lib.toList_data, HBD.out, hbe]; rfl
        have HE2 : Hid (os = chooseF K ls) := Lib.hid (by
          have h1 := HE.out
          rw [choose_stop hbe, List.append_nil] at h1
          exact h1)
        clear hbe hbl
        go_wp2_with fail
        go_ret
        rw [HF.out, ← HE2.out]
        exact ⟨A6, n6, c6, rfl, HT2.out.own, HT2.out.bel⟩
      · have hg := HG.out
        have hbs : 2 ≤ b.size ∧ (b.size : Int) ≤ 8 := by
          rcases hg with h | h
          · exact absurd h hbe
          · rw [← hbl, HBD.out]; omega
        obtain ⟨hb1, hb2⟩ := hbs
        have t0 : b.toList.isEmpty = false := by
          rw [Lib.toList_data]
          cases hd : b.data.toList with
          | nil => rw [hd, List.length_nil] at hbl; omega
          | cons x y => rfl
        obtain ⟨k, hk⟩ : ∃ k, K - n6 = k + 1 := ⟨K - n6 - 1, by omega⟩
        have HE2 : Hid ((os ++ [b.data.toList]) ++ chooseF (K - (n6 + 1)) (ps.flatMap (spl b.data.toList)) = chooseF K ls) := Lib.hid (by
          have h1 := HE.out
          rw [hk, choose_step hbe] at h1
          rw [HBD.out, List.append_assoc, show K - (n6 + 1) = k from by omega]
          exact h1)
        have HM2 : Hid ((ps.flatMap (spl b.data.toList)).length + tot (ps.flatMap (spl b.data.toList)) ≤ 10000 ∧ Short_ 1000 (ps.flatMap (spl b.data.toList))) := Lib.hid (by
          rw [HBD.out]
          refine ⟨?_, short_flat hbe HM.out.2⟩
          obtain ⟨h1, h2⟩ := flat_tot hbe ps
          have h3 := HM.out.1
          have h4 := HT.out.rd.1
          have h5 : cnt (bestL ps) ps * 1 ≤ cnt (bestL ps) ps * (bestL ps).length := Nat.mul_le_mul_left _ (pos_of_ne hbe)
          omega)
        have hz2 := HT2.out.bel.size
        clear hbe hbl hk hg
        go_wp2_with (at_builtin; refine wpList_app1L _ rfl _ _ 22 rfl w.heap.size 9 i0 _ 16 Tryd.underlying22 HI.out HZ0.out HSZ.out HBY.out rfl _ n6 _ rfl (HT2.out.own.alloc _) ⟨_, 0, none⟩ 1 (.string b) rfl (new_cell _ _ _) rfl (by omega) (by unfold maxLen; omega) (by simp; omega) ?_; intro A7 c7 w8 hown2 hg2 hw2)
        have HT3 := Lib.hid (HT2.out.push hown2 hg2 hw2)
        clear hown2 hg2 hw2 t0
        refine (rWithout_any w8 _ A5 n5 c5 ps b HT3.out.rd (Nat.le_refl _) HSH.out (by omega) (by omega) (by omega)).mono ?_
        rintro e w9 ⟨A8, n8, c8, rfl, ho8, hb8⟩
        have HT4 := Lib.hid (HT3.out.next ho8 hb8)
        have hn8 := ownS_len ho8
        have HM3 : Hid (n8 + tot (ps.flatMap (spl b.data.toList)) ≤ 10000 ∧ Short_ 1000 (ps.flatMap (spl b.data.toList))) := Lib.hid (by rw [← hn8]; exact HM2.out)
        clear ho8 hb8 hn8
        go_wp2_with fail
        go_roundw
        case rel => exact ⟨A8, n8, c8, ps.flatMap (spl b.data.toList), A7, n6 + 1, c7, os ++ [b.data.toList], rfl, rfl, by omega, Lib.hid (by rw [sc_snoc, bs_data]; exact HT4.out), HE2, HM3⟩
        case measure => simp [slLen7]; omega
    · have HE2 : Hid (os = chooseF K ls) := Lib.hid (by
        have h1 := HE.out
        rw [show K - n6 = 0 from by omega] at h1
        simpa [chooseF] using h1)
      have hend : ¬ (n6 : Int) < most ∨ (n6 : Int) < most ∧ ¬ (n6 : Int) < 32 := by have := HKK.out; omega
      rcases hend with h1 | ⟨h1, h2⟩
      all_goals
        go_wp2_with fail
        go_ret
        rw [HF.out, ← HE2.out]
        exact ⟨A6, n6, c6, rfl, HT.out.own, HT.out.bel⟩

end Go.Proofs.YtpfkkmjodhpkoaaDoor
