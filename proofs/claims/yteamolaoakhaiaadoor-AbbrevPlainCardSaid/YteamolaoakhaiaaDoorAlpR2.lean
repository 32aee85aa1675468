/- Contracts of layer 6's reference: Codes, Cost, begins; of its law's sameInts. -/
import Derived.Test.YteamolaoakhaiaaDoorAlpR
import Derived.Deep.QuietTactic
import Derived.BigQuiet
namespace Go.Proofs.YteamolaoakhaiaaDoor
open Go.RowKit

/-- What a function leaves that hands back ints in a row of its own, and an error. -/
def OutIE (base : Nat) (t : TypeId) (w : World) (zs : List Int) (er : Int) (e : Ending) (w' : World) : Prop :=
  ∃ A n c, e = .returned (.tuple #[.slice A n c, .int .i64 er]) ∧ w'.ownsRow base t 1 (.slice A n c) n (iv zs) ∧ Below base w w'

/-- what Codes comes to -/
def cdZ (l : List UInt8) : List Int := if textB l then codes l else []
def cdE (l : List UInt8) : Int := if textB l then 0 else 13

theorem codes_take {s : ByteArray} {j : Nat} (h : j < s.size) : codes (s.data.toList.take (j + 1)) = codes (s.data.toList.take j) ++ oneL s[j] := by
  have hl : s.data.toList.length = s.size := by rw [Array.length_toList]; rfl
  rw [List.take_succ_eq_append_getElem (by omega), codes_snoc]
  rfl

theorem iv_take_succ {zs ys : List Int} {k : Nat} (h : k < ys.length) : iv (zs ++ ys.take (k + 1)) = iv (zs ++ ys.take k) ++ [.int .i64 (ys.getD k 0)] := by
  rw [List.take_succ_eq_append_getElem h, ← List.append_assoc, iv_snoc]
  simp [List.getD, h]

theorem text_one {s : ByteArray} {j : Nat} (h : j < s.size) : textB (s.extract j (j + 1)).data.toList = isTx s[j] := by
  have hl : s.data.toList.length = s.size := by rw [Array.length_toList]; rfl
  have e : (s.extract j (j + 1)).data.toList = [s[j]] := by
    rw [ByteArray.data_extract, Array.toList_extract, List.extract_eq_take_drop, show j + 1 - j = 1 from by omega, List.drop_eq_getElem_cons (by omega)]
    rfl
  rw [e]
  unfold textB
  simp

theorem cost_take {s : ByteArray} {j : Nat} (h : j < s.size) : costL (s.data.toList.take (j + 1)) = costL (s.data.toList.take j) + if isTx s[j] then (oneL s[j]).length else 0 := by
  have hl : s.data.toList.length = s.size := by rw [Array.length_toList]; rfl
  rw [List.take_succ_eq_append_getElem (by omega), costL_append, ← costL_one]
  rfl

set_option maxRecDepth 100000 in
set_option maxHeartbeats 1600000 in
theorem rcost_any (w : World) (s : ByteArray) (hs : (s.size : Int) ≤ 100000) :
    Calls Tryd.prog 20 #[.string s] w fun e w' => e = .returned (.int .i64 (costL s.data.toList : Nat)) ∧ Below w.heap.size w w' := by
  go_enter Tryd.func20, Tryd.ntmps20
  go_wp2_with fail
  go_loopw [3, 4] (fun v i wr => ∃ (j q : Nat), j ≤ s.size ∧ i = .int .i64 j ∧ v = .int .i64 q ∧ Hid (q = costL (s.data.toList.take j)) ∧ Hid (Below w.heap.size w wr)) (fun _ i _ => s.size - (intOf i).toNat)
  case atStart => exact ⟨0, 0, Nat.zero_le _, rfl, rfl, Lib.hid rfl, Lib.hid (Below.refl _ _)⟩
  case round =>
    obtain ⟨j, q, hj, rfl, rfl, HQ, HB⟩ := hrel
    by_cases hlt : j < s.size
    · have hq : q ≤ 300000 := by
        have h1 := HQ.out
        have h2 := costL_le (s.data.toList.take j)
        rw [List.length_take] at h2
        omega
      have HT := Lib.hid (text_one hlt)
      have HC := Lib.hid (cost_take hlt)
      have hsx : ((s.extract j (j + 1)).size : Int) ≤ 1000000 := by
        rw [ByteArray.size_extract]
        omega
      have HSX := Lib.hid hsx
      clear hsx
      by_cases ht : isTx s[j] = true
      · have HC2 : Hid (costL (s.data.toList.take (j + 1)) = costL (s.data.toList.take j) + (oneL s[j]).length) := Lib.hid (by rw [HC.out, if_pos ht])
        have HT2 : Hid (textB (s.extract j (j + 1)).data.toList = true) := Lib.hid (HT.out.trans ht)
        clear HC HT ht
        go_wp2_with fail
        refine (rtext_any wr _ HSX.out).mono ?_
        rintro e w1 ⟨rfl, rfl⟩
        rw [HT2.out]
        go_wp2_with fail
        refine (rone_any wr s[j]).mono ?_
        rintro e w2 ⟨A1, m, c1, rfl, ho1, hb1⟩
        have hm : m ≤ 3 := by have := ownI_len ho1; have := oneL_len s[j]; omega
        have HM := Lib.hid (ownI_len ho1)
        have HB2 := Lib.hid (HB.out.trans (hb1.mono HB.out.size))
        clear ho1 hb1 HB
        go_wp2_with fail
        go_roundw
        case rel => exact ⟨j + 1, q + m, by omega, by go_num, by go_num, Lib.hid (by rw [HC2.out, ← HQ.out, HM.out]), HB2⟩
        case measure => simp [intOf]; omega
      · rw [Bool.not_eq_true] at ht
        have HC2 : Hid (costL (s.data.toList.take (j + 1)) = costL (s.data.toList.take j)) := Lib.hid (by rw [HC.out, ht]; rfl)
        have HT2 : Hid (textB (s.extract j (j + 1)).data.toList = false) := Lib.hid (HT.out.trans ht)
        clear HC HT ht
        go_wp2_with fail
        refine (rtext_any wr _ HSX.out).mono ?_
        rintro e w1 ⟨rfl, rfl⟩
        rw [HT2.out]
        go_wp2_with fail
        go_roundw
        case rel => exact ⟨j + 1, q, by omega, by go_num, rfl, Lib.hid (by rw [HC2.out, ← HQ.out]), HB⟩
        case measure => simp [intOf]; omega
    · have HE : Hid (s.data.toList.take j = s.data.toList) := Lib.hid (List.take_of_length_le (by rw [Array.length_toList]; show s.size ≤ j; omega))
      go_wp2_with fail
      go_ret
      exact ⟨ret_int (by rw [HQ.out, HE.out]), HB.out⟩

/-- equal lists of ints -/
def eqI (zs ys : List Int) : Bool := decide (zs = ys)

theorem eqI_len {zs ys : List Int} (h : zs.length ≠ ys.length) : eqI zs ys = false := by
  unfold eqI
  rw [decide_eq_false]
  rintro rfl
  exact h rfl

theorem eqI_at {zs ys : List Int} {j : Nat} (h : zs.getD j 0 ≠ ys.getD j 0) : eqI zs ys = false := by
  unfold eqI
  rw [decide_eq_false]
  rintro rfl
  exact h rfl

theorem eqI_all {zs ys : List Int} (h0 : zs.length = ys.length) (h : ∀ m, m < zs.length → zs.getD m 0 = ys.getD m 0) : eqI zs ys = true := by
  unfold eqI
  rw [decide_eq_true_eq]
  refine List.ext_getElem h0 fun m h1 h2 => ?_
  have e := h m h1
  simpa [List.getD, h1, h2] using e

theorem bool_ret6 {a b : Bool} (h : a = b) : Ending.returned (.bool a) = .returned (.bool b) := by rw [h]

end Go.Proofs.YteamolaoakhaiaaDoor
