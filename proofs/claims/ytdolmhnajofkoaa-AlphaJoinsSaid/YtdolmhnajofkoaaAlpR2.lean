/- Contracts of layer 6's reference: Codes, Cost, begins; of its law's sameInts. -/
import Derived.Test.YtdolmhnajofkoaaAlpR
import Derived.Deep.QuietTactic
import Derived.BigQuiet
namespace Go.Proofs.Ytdolmhnajofkoaa
open Go.RowKit

/-- What a function leaves that hands back ints in a row of its own, and an error. -/
def OutIE (base : Nat) (t : TypeId) (w : World) (zs : List Int) (er : Int) (e : Ending) (w' : World) : Prop :=
  ∃ A n c, e = .returned (.tuple #[.slice A n c, .int .i64 er]) ∧ w'.ownsRow base t 1 (.slice A n c) n (iv zs) ∧ Below base w w'

/-- what Codes comes to -/
def cdZ (l : List UInt8) : List Int := if textB l then codes l else []
def cdE (l : List UInt8) : Int := if textB l then 0 else 13

theorem codes_take {s : ByteArray} {j : Nat} (h : j < s.size) : codes (s.data.toList.take (j + 1)) = codes (s.data.toList.take j) ++ oneL s[j] := by
  have hl : s.data.toList.length = s.size := by rw [Array.length_toList]; rfl
  rw [List.take_succ_eq_append_getElem (by omega), codes_snoc]
  rfl

theorem iv_take_succ {zs ys : List Int} {k : Nat} (h : k < ys.length) : iv (zs ++ ys.take (k + 1)) = iv (zs ++ ys.take k) ++ [.int .i64 (ys.getD k 0)] := by
  rw [List.take_succ_eq_append_getElem h, ← List.append_assoc, iv_snoc]
  simp [List.getD, h]

set_option maxRecDepth 100000 in
set_option maxHeartbeats 1600000 in
theorem rcodes_any (w : World) (s : ByteArray) (hs : (s.size : Int) ≤ 100000) :
    Calls Try.prog 11 #[.string s] w (OutIE w.heap.size 3 w (cdZ s.data.toList) (cdE s.data.toList)) := by
  obtain ⟨i0, hi, hz0, hsz, hby⟩ := inf_parts Try.inf_int
  have HI := Lib.hid hi
  have HZ0 := Lib.hid hz0
  have HSZ := Lib.hid hsz
  have HBY := Lib.hid hby
  clear hi hz0 hsz hby
  by_cases ht : textB s.data.toList = true
  · have e1 : cdZ s.data.toList = codes s.data.toList := by unfold cdZ; rw [if_pos ht]
    have e2 : cdE s.data.toList = 0 := by unfold cdE; rw [if_pos ht]
    rw [e1, e2]
    have HT := Lib.hid ht
    clear e1 e2 ht
    go_enter Try.func11, Try.ntmps11
    go_wp2_with fail
    refine (rtext_any w s (by omega)).mono ?_
    rintro e w1 ⟨rfl, rfl⟩
    rw [HT.out]
    go_wp2_with fail
    go_loopw [4, 5] (fun v i wr => ∃ (A : Option Addr) (n c j : Nat), j ≤ s.size ∧ i = .int .i64 j ∧ v = .slice A n c ∧ Hid (wr.ownsRow w.heap.size 3 1 (.slice A n c) n (iv (codes (s.data.toList.take j)))) ∧ Hid (Below w.heap.size w wr)) (fun _ i _ => s.size - (intOf i).toNat)
    case atStart => exact ⟨none, 0, 0, 0, Nat.zero_le _, rfl, rfl, Lib.hid (ownI_nil w _ _), Lib.hid (Below.refl _ _)⟩
    case round =>
      obtain ⟨A, n, c, j, hj, rfl, rfl, HO, HB⟩ := hrel
      by_cases hlt : j < s.size
      · go_wp2_with fail
        refine (rone_any wr s[j]).mono ?_
        rintro e w2 ⟨A1, m, c1, rfl, ho1, hb1⟩
        have HT2 := Lib.hid (Two.start HO.out HB.out ho1 (oneL_fit _) hb1)
        have hm : m ≤ 3 := by have := ownI_len ho1; have := oneL_len s[j]; omega
        have hm1 : m = (oneL s[j]).length := (ownI_len ho1).symm
        have HM := Lib.hid hm1
        have HCT := Lib.hid (codes_take hlt)
        clear ho1 hb1 HO HB hm1
        have hnl : n ≤ 300000 := by
          have h1 := ownI_len HT2.out.own
          have h2 := codes_len (s.data.toList.take j)
          rw [List.length_take] at h2
          omega
        go_wp2_with fail
        go_loopw [4, 7] (fun v i wr => ∃ (A : Option Addr) (n' c k : Nat), k ≤ m ∧ i = .int .i64 k ∧ v = .slice A n' c ∧ Hid (n' = n + k) ∧ Hid (Two w wr 3 A n' c (iv (codes (s.data.toList.take j) ++ (oneL s[j]).take k)) A1 m (oneL s[j]))) (fun _ i _ => m - (intOf i).toNat)
        case atStart => exact ⟨A, n, c, 0, Nat.zero_le _, rfl, rfl, Lib.hid rfl, Lib.hid (by rw [List.take_zero, List.append_nil]; exact HT2.out)⟩
        case round =>
          obtain ⟨A2, n2, c2, k, hk, rfl, rfl, hn2, HT3⟩ := hrel
          by_cases hlt2 : k < m
          · obtain ⟨ad, rfl, hab, hcell⟩ := HT3.out.rd.2.1 (by omega)
            have hkl : k < (oneL s[j]).length := by have := HM.out; omega
            have hc := hcell k hkl
            clear hcell
            have hsucc := Lib.hid (iv_take_succ (zs := codes (s.data.toList.take j)) hkl)
            obtain ⟨z, hz⟩ : ∃ z, z = (oneL s[j]).getD k 0 := ⟨_, rfl⟩
            rw [← hz] at hc hsucc
            clear hz
            have hsz := HT3.out.bel.size
            have hn3 : n2 ≤ 300003 := by have := hn2.out; omega
            go_wp2_with (at_builtin; refine wpList_app1L _ rfl _ _ 23 rfl w.heap.size 3 i0 _ 8 Try.underlying23 HI.out HZ0.out HSZ.out HBY.out rfl _ n2 _ rfl (HT3.out.own.alloc _) ⟨_, 0, none⟩ 1 (.int .i64 z) rfl (new_cell _ _ _) rfl (by omega) (by unfold maxLen; omega) (by simp; omega) ?_; intro A3 c3 w8 hown2 hg2 hw2)
            have HT4 := Lib.hid (HT3.out.push hown2 hg2 hw2)
            clear hown2 hg2 hw2
            go_roundw
            case rel => exact ⟨A3, n2 + 1, c3, k + 1, by omega, by go_num, rfl, Lib.hid (by have := hn2.out; omega), Lib.hid (by rw [hsucc.out]; exact HT4.out)⟩
            case measure => simp [intOf]; omega
          · obtain rfl : k = m := by omega
            go_wp2_with fail
            go_roundw
            case rel =>
              refine ⟨A2, n2, c2, j + 1, by omega, by go_num, rfl, Lib.hid ?_, Lib.hid HT3.out.bel⟩
              have h := HT3.out.own
              rw [List.take_of_length_le (l := oneL s[j]) (by have := HM.out; omega), ← HCT.out] at h
              exact h
            case measure => simp [intOf]; omega
      · have HE : Hid (s.data.toList.take j = s.data.toList) := Lib.hid (List.take_of_length_le (by rw [Array.length_toList]; show s.size ≤ j; omega))
        go_wp2_with fail
        go_ret2
        refine ⟨A, n, c, rfl, ?_, HB.out⟩
        have h := HO.out
        rw [HE.out] at h
        exact h
  · rw [Bool.not_eq_true] at ht
    have e1 : cdZ s.data.toList = [] := by unfold cdZ; rw [ht]; rfl
    have e2 : cdE s.data.toList = 13 := by unfold cdE; rw [ht]; rfl
    rw [e1, e2]
    have HT := Lib.hid ht
    clear e1 e2 ht
    go_enter Try.func11, Try.ntmps11
    go_wp2_with fail
    refine (rtext_any w s (by omega)).mono ?_
    rintro e w1 ⟨rfl, rfl⟩
    rw [HT.out]
    go_wp2_with fail
    go_ret2
    exact ⟨none, 0, 0, rfl, ownI_nil _ _ _, Below.refl _ _⟩

theorem text_one {s : ByteArray} {j : Nat} (h : j < s.size) : textB (s.extract j (j + 1)).data.toList = isTx s[j] := by
  have hl : s.data.toList.length = s.size := by rw [Array.length_toList]; rfl
  have e : (s.extract j (j + 1)).data.toList = [s[j]] := by
    rw [ByteArray.data_extract, Array.toList_extract, List.extract_eq_take_drop, show j + 1 - j = 1 from by omega, List.drop_eq_getElem_cons (by omega)]
    rfl
  rw [e]
  unfold textB
  simp

theorem cost_take {s : ByteArray} {j : Nat} (h : j < s.size) : costL (s.data.toList.take (j + 1)) = costL (s.data.toList.take j) + if isTx s[j] then (oneL s[j]).length else 0 := by
  have hl : s.data.toList.length = s.size := by rw [Array.length_toList]; rfl
  rw [List.take_succ_eq_append_getElem (by omega), costL_append, ← costL_one]
  rfl

set_option maxRecDepth 100000 in
set_option maxHeartbeats 1600000 in
theorem rcost_any (w : World) (s : ByteArray) (hs : (s.size : Int) ≤ 100000) :
    Calls Try.prog 14 #[.string s] w fun e w' => e = .returned (.int .i64 (costL s.data.toList : Nat)) ∧ Below w.heap.size w w' := by
  go_enter Try.func14, Try.ntmps14
  go_wp2_with fail
  go_loopw [3, 4] (fun v i wr => ∃ (j q : Nat), j ≤ s.size ∧ i = .int .i64 j ∧ v = .int .i64 q ∧ Hid (q = costL (s.data.toList.take j)) ∧ Hid (Below w.heap.size w wr)) (fun _ i _ => s.size - (intOf i).toNat)
  case atStart => exact ⟨0, 0, Nat.zero_le _, rfl, rfl, Lib.hid rfl, Lib.hid (Below.refl _ _)⟩
  case round =>
    obtain ⟨j, q, hj, rfl, rfl, HQ, HB⟩ := hrel
    by_cases hlt : j < s.size
    · have hq : q ≤ 300000 := by
        have h1 := HQ.out
        have h2 := costL_le (s.data.toList.take j)
        rw [List.length_take] at h2
        omega
      have HT := Lib.hid (text_one hlt)
      have HC := Lib.hid (cost_take hlt)
      have hsx : ((s.extract j (j + 1)).size : Int) ≤ 1000000 := by
        rw [ByteArray.size_extract]
        omega
      have HSX := Lib.hid hsx
      clear hsx
      by_cases ht : isTx s[j] = true
      · have HC2 : Hid (costL (s.data.toList.take (j + 1)) = costL (s.data.toList.take j) + (oneL s[j]).length) := Lib.hid (by rw [HC.out, if_pos ht])
        have HT2 : Hid (textB (s.extract j (j + 1)).data.toList = true) := Lib.hid (HT.out.trans ht)
        clear HC HT ht
        go_wp2_with fail
        refine (rtext_any wr _ HSX.out).mono ?_
        rintro e w1 ⟨rfl, rfl⟩
        rw [HT2.out]
        go_wp2_with fail
        refine (rone_any wr s[j]).mono ?_
        rintro e w2 ⟨A1, m, c1, rfl, ho1, hb1⟩
        have hm : m ≤ 3 := by have := ownI_len ho1; have := oneL_len s[j]; omega
        have HM := Lib.hid (ownI_len ho1)
        have HB2 := Lib.hid (HB.out.trans (hb1.mono HB.out.size))
        clear ho1 hb1 HB
        go_wp2_with fail
        go_roundw
        case rel => exact ⟨j + 1, q + m, by omega, by go_num, by go_num, Lib.hid (by rw [HC2.out, ← HQ.out, HM.out]), HB2⟩
        case measure => simp [intOf]; omega
      · rw [Bool.not_eq_true] at ht
        have HC2 : Hid (costL (s.data.toList.take (j + 1)) = costL (s.data.toList.take j)) := Lib.hid (by rw [HC.out, ht]; rfl)
        have HT2 : Hid (textB (s.extract j (j + 1)).data.toList = false) := Lib.hid (HT.out.trans ht)
        clear HC HT ht
        go_wp2_with fail
        refine (rtext_any wr _ HSX.out).mono ?_
        rintro e w1 ⟨rfl, rfl⟩
        rw [HT2.out]
        go_wp2_with fail
        go_roundw
        case rel => exact ⟨j + 1, q, by omega, by go_num, rfl, Lib.hid (by rw [HC2.out, ← HQ.out]), HB⟩
        case measure => simp [intOf]; omega
    · have HE : Hid (s.data.toList.take j = s.data.toList) := Lib.hid (List.take_of_length_le (by rw [Array.length_toList]; show s.size ≤ j; omega))
      go_wp2_with fail
      go_ret
      exact ⟨ret_int (by rw [HQ.out, HE.out]), HB.out⟩

/-- equal lists of ints -/
def eqI (zs ys : List Int) : Bool := decide (zs = ys)

theorem eqI_len {zs ys : List Int} (h : zs.length ≠ ys.length) : eqI zs ys = false := by
  unfold eqI
  rw [decide_eq_false]
  rintro rfl
  exact h rfl

theorem eqI_at {zs ys : List Int} {j : Nat} (h : zs.getD j 0 ≠ ys.getD j 0) : eqI zs ys = false := by
  unfold eqI
  rw [decide_eq_false]
  rintro rfl
  exact h rfl

theorem eqI_all {zs ys : List Int} (h0 : zs.length = ys.length) (h : ∀ m, m < zs.length → zs.getD m 0 = ys.getD m 0) : eqI zs ys = true := by
  unfold eqI
  rw [decide_eq_true_eq]
  refine List.ext_getElem h0 fun m h1 h2 => ?_
  have e := h m h1
  simpa [List.getD, h1, h2] using e

theorem bool_ret6 {a b : Bool} (h : a = b) : Ending.returned (.bool a) = .returned (.bool b) := by rw [h]

set_option maxRecDepth 100000 in
set_option maxHeartbeats 3200000 in
theorem same6_any (w : World) (B B' : Nat) (A A' : Option Addr) (n n' c c' : Nat) (zs ys : List Int) (h : RdI w B A n zs) (h' : RdI w B' A' n' ys) (hn : (n : Int) ≤ 1000000) (hn' : (n' : Int) ≤ 1000000) :
    Calls Try.prog 12 #[.slice A n c, .slice A' n' c'] w fun e w' => e = .returned (.bool (eqI zs ys)) ∧ Below w.heap.size w w' := by
  have H := Lib.hid h
  have H' := Lib.hid h'
  clear h h'
  by_cases hl : n = n'
  · obtain rfl := hl
    go_enter Try.func12, Try.ntmps12
    go_wp2_with fail
    go_loopw [13] (fun i wr => ∃ (j : Nat), j ≤ n ∧ i = .int .i64 j ∧ Below w.heap.size w wr ∧ (∀ p, wr.cell? p = w.cell? p) ∧ Hid (∀ m, m < j → zs.getD m 0 = ys.getD m 0)) (fun i _ => n - (intOf i).toNat)
    case atStart => exact ⟨0, Nat.zero_le _, rfl, Below.refl _ _, fun _ => rfl, Lib.hid (fun m hm => absurd hm (by omega))⟩
    case round =>
      obtain ⟨j, hj, rfl, hbel, hcells, HE⟩ := hrel
      by_cases hlt : j < n
      · obtain ⟨ad, rfl, _, hc⟩ := H.out.2.1 (by omega)
        obtain ⟨ad', rfl, _, hc'⟩ := H'.out.2.1 (by omega)
        have k1 := (hcells (ad.add j)).trans (hc j (by rw [H.out.1]; exact hlt))
        have k2 := (hcells (ad'.add j)).trans (hc' j (by rw [H'.out.1]; exact hlt))
        obtain ⟨z, hz⟩ : ∃ z, z = zs.getD j 0 := ⟨_, rfl⟩
        obtain ⟨y, hy⟩ : ∃ y, y = ys.getD j 0 := ⟨_, rfl⟩
        rw [← hz] at k1
        rw [← hy] at k2
        have HC := Lib.hid hcells
        clear hc hc' hcells
        by_cases e : z = y
        · have HE2 : Hid (∀ m, m < j + 1 → zs.getD m 0 = ys.getD m 0) := Lib.hid (fun m hm => by
            by_cases e2 : m = j
            · subst e2; rw [← hz, ← hy, e]
            · exact HE.out m (by omega))
          have t0 : (z != y) = false := by rw [e]; simp
          clear hz hy e HE
          go_wp2_with fail
          go_quiet (fail)
          go_wp2_with fail
          go_roundw
          case rel => exact ⟨j + 1, by omega, by go_num, ⟨hbel.os, hbel.tape, hbel.output, hbel.size, hbel.block⟩, HC.out, HE2⟩
          case measure => simp [intOf]; omega
        · have HF : Hid (eqI zs ys = false) := Lib.hid (eqI_at (j := j) (by rw [← hz, ← hy]; exact e))
          have t0 : (z != y) = true := by rw [bne_iff_ne]; exact e
          clear hz hy e HE
          go_wp2_with fail
          go_quiet (fail)
          go_wp2_with fail
          go_ret
          exact ⟨bool_ret6 HF.out.symm, ⟨hbel.os, hbel.tape, hbel.output, hbel.size, hbel.block⟩⟩
      · have HC := Lib.hid hcells
        have HF : Hid (eqI zs ys = true) := Lib.hid (eqI_all (by rw [H.out.1, H'.out.1]) (fun m hm => HE.out m (by rw [H.out.1] at hm; omega)))
        clear hcells
        go_wp2_with fail
        go_ret
        exact ⟨bool_ret6 HF.out.symm, hbel⟩
  · have HF : Hid (eqI zs ys = false) := Lib.hid (eqI_len (by rw [H.out.1, H'.out.1]; exact hl))
    have t0 : ((n : Int) != (n' : Int)) = true := by rw [bne_iff_ne]; omega
    clear hl
    go_enter Try.func12, Try.ntmps12
    go_wp2_with fail
    go_ret
    exact ⟨bool_ret6 HF.out.symm, Below.refl _ _⟩

end Go.Proofs.Ytdolmhnajofkoaa
