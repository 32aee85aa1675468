/- Contracts of the references of stage 6: Codes, Cost, Same, begins, Text, Pack, Unpack. -/
import Derived.Test.YtpfkkmjodhpkoaaDoorAlpP
import Derived.Test.YtpfkkmjodhpkoaaDoorIntS
import Derived.Test.YtpfkkmjodhpkoaaDoorTellsR
import Derived.Test.YtpfkkmjodhpkoaaDoorInfo
import Derived.Test.YtpfkkmjodhpkoaaDoorBitP
import Derived.Deep.QuietTactic
import Derived.BigQuiet
namespace Go.Proofs.YtpfkkmjodhpkoaaDoor
open Go.RowKit
set_option linter.unusedVariables false

/-- a symbol's place, or -1 -/
def signI (c : UInt8) : Int := if sgL.idxOf c < 31 then (sgL.idxOf c : Int) else -1

theorem sgL_nodup : ∀ a < 31, ∀ b < 31, sgL[a]?.getD 0 = sgL[b]?.getD 0 → a = b := by decide

theorem signI_at {c : UInt8} {j : Nat} (hj : j < 31) (h : sgL[j]?.getD 0 = c) : signI c = j := by
  have hm : c ∈ sgL := by
    rw [List.getElem?_eq_getElem (show j < sgL.length from hj)] at h
    exact h ▸ List.getElem_mem (show j < sgL.length from hj)
  have h1 := List.idxOf_lt_length_of_mem hm
  have h2 : sgL[sgL.idxOf c] = c := List.getElem_idxOf h1
  have e : sgL.idxOf c = j := sgL_nodup _ h1 _ hj (by rw [h, List.getElem?_eq_getElem h1, h2]; rfl)
  unfold signI
  rw [e, if_pos hj]

theorem signI_no {c : UInt8} (hall : ∀ m, m < 31 → sgL[m]?.getD 0 ≠ c) : signI c = -1 := by
  unfold signI
  rw [if_neg]
  intro h
  have h1 : sgL.idxOf c < sgL.length := h
  have h2 : sgL[sgL.idxOf c] = c := List.getElem_idxOf h1
  exact hall _ h (by rw [List.getElem?_eq_getElem h1, h2]; rfl)

theorem signI_le (c : UInt8) : -1 ≤ signI c ∧ signI c ≤ 30 := by
  unfold signI
  split <;> omega

set_option maxRecDepth 100000 in
set_option maxHeartbeats 800000 in
theorem rsign_any (w : World) (c : UInt8) : Calls Tryd.prog 81 #[.int .u8 (c.toNat : Int)] w fun e w' => e = .returned (.int .i64 (signI c)) ∧ w = w' := by
  go_enter Tryd.func81, Tryd.ntmps81
  go_wp2_with fail
  go_loop [3] (fun i => ∃ j : Nat, j ≤ 31 ∧ i = .int .i64 j ∧ Hid (∀ m, m < j → sgL[m]?.getD 0 ≠ c)) (fun i => 31 - (intOf i).toNat)
  case atStart => exact ⟨0, Nat.zero_le _, rfl, Lib.hid (fun m hm => absurd hm (by omega))⟩
  case round =>
    obtain ⟨j, hj, rfl, hall⟩ := hrel
    by_cases hlt : j < 31
    · have hsz : (⟨#[48, 49, 50, 51, 52, 53, 54, 55, 56, 57, 46, 44, 33, 63, 39, 34, 45, 58, 59, 40, 41, 47, 38, 42, 43, 61, 37, 35, 36, 10, 60]⟩ : ByteArray).size = 31 := rfl
      have hat := byte_at (⟨#[48, 49, 50, 51, 52, 53, 54, 55, 56, 57, 46, 44, 33, 63, 39, 34, 45, 58, 59, 40, 41, 47, 38, 42, 43, 61, 37, 35, 36, 10, 60]⟩ : ByteArray) j (by rw [hsz]; exact hlt)
      by_cases h : sgL[j]?.getD 0 = c
      · have hb : ((((⟨#[48, 49, 50, 51, 52, 53, 54, 55, 56, 57, 46, 44, 33, 63, 39, 34, 45, 58, 59, 40, 41, 47, 38, 42, 43, 61, 37, 35, 36, 10, 60]⟩ : ByteArray)[j]'(by rw [hsz]; exact hlt)).toNat : Int) == (c.toNat : Int)) = true := by
          rw [beq_iff_eq, ← hat]
          exact congrArg (fun x : UInt8 => (x.toNat : Int)) h
        have HS := Lib.hid (signI_at hlt h)
        clear hat h
        go_wp2_with fail
        go_ret
        exact ⟨ret_int HS.out.symm, rfl⟩
      · have hb : ((((⟨#[48, 49, 50, 51, 52, 53, 54, 55, 56, 57, 46, 44, 33, 63, 39, 34, 45, 58, 59, 40, 41, 47, 38, 42, 43, 61, 37, 35, 36, 10, 60]⟩ : ByteArray)[j]'(by rw [hsz]; exact hlt)).toNat : Int) == (c.toNat : Int)) = false := by
          rw [beq_eq_false_iff_ne, ← hat]
          intro e
          exact h (UInt8.toNat_inj.1 (Int.ofNat_inj.1 e))
        have HM : Hid (∀ m, m < j + 1 → sgL[m]?.getD 0 ≠ c) := Lib.hid (fun m hm => by
          by_cases e : m = j
          · subst e; exact h
          · exact hall.out m (by omega))
        clear hat h hall
        go_wp2_with fail
        go_round
        case rel => exact ⟨j + 1, by omega, by go_num, HM⟩
        case measure => simp [intOf]; omega
    · obtain rfl : j = 31 := by omega
      have HS := Lib.hid (signI_no hall.out)
      go_wp2_with fail
      go_ret
      exact ⟨ret_int HS.out.symm, rfl⟩

/-- the codes of a byte, by what it is -/
theorem one_sp {c : UInt8} (h : (c.toNat : Int) = 32) : oneL c = [0] := by
  unfold oneL; rw [if_pos (by omega)]
theorem one_sm {c : UInt8} (h0 : ¬ (c.toNat : Int) = 32) (h : isSm c = true) : oneL c = [(c.toNat : Int) - 97 + 1] := by
  unfold oneL; rw [if_neg (by omega), if_pos h]
  exact congrArg (fun x => [x]) (by omega)
theorem one_cp {c : UInt8} (h0 : ¬ (c.toNat : Int) = 32) (h1 : isSm c = false) (h : isCp c = true) : oneL c = [27, (c.toNat : Int) - 65 + 1] := by
  unfold oneL; rw [if_neg (by omega), if_neg (by rw [h1]; decide), if_pos h]
  exact congrArg (fun x => [27, x]) (by omega)
theorem one_sg {c : UInt8} (h0 : ¬ (c.toNat : Int) = 32) (h1 : isSm c = false) (h2 : isCp c = false) (h : 0 ≤ signI c) : oneL c = [28, signI c] := by
  unfold oneL; rw [if_neg (by omega), if_neg (by rw [h1]; decide), if_neg (by rw [h2]; decide)]
  unfold signI at *
  split at h
  · rename_i h3; rw [if_pos h3, if_pos h3]
  · omega
theorem one_by {c : UInt8} (h0 : ¬ (c.toNat : Int) = 32) (h1 : isSm c = false) (h2 : isCp c = false) (h : signI c < 0) : oneL c = [29, (c.toNat : Int) / 16, (c.toNat : Int) % 16] := by
  unfold oneL; rw [if_neg (by omega), if_neg (by rw [h1]; decide), if_neg (by rw [h2]; decide)]
  unfold signI at *
  split at h
  · omega
  · rename_i h3; rw [if_neg h3]

theorem oneL_fit (c : UInt8) : FitI (oneL c) := FitI.of_mem fun z hz => by have := oneL_range c z hz; omega
theorem codes_fit (l : List UInt8) : FitI (codes l) := FitI.of_mem fun z hz => by have := codes_range l z hz; omega

/-- a new block of codes, handed back -/
theorem OutI.lit (w : World) (t : TypeId) (zs : List Int) (cs : Array Value) (n : Nat) (hn : n = zs.length) (hm : n ≤ maxLen) (hcs : cs = (iv zs).toArray) :
    OutI w.heap.size t w zs (.returned (.slice (some ⟨w.heap.size, 0, none⟩) n n)) (w.alloc (.cells cs t)) := by
  subst hcs hn
  refine ⟨_, _, _, rfl, ?_, (Below.refl _ _).alloc (Nat.le_refl _) _⟩
  have h := World.ownsRow_lit (base := w.heap.size) (e := t) (size := 1) w (iv zs).toArray zs.length (Nat.le_refl _) hm (by simp [iv])
  simpa using h

set_option maxRecDepth 100000 in
set_option maxHeartbeats 1600000 in
theorem rone_any (w : World) (c : UInt8) : Calls Tryd.prog 71 #[.int .u8 (c.toNat : Int)] w (OutI w.heap.size 3 w (oneL c)) := by
  have hc := c.toNat_lt
  by_cases a0 : (c.toNat : Int) = 32
  · rw [one_sp a0]
    have t0 : ((c.toNat : Int) == 32) = true := by simpa using a0
    clear a0
    go_enter Tryd.func71, Tryd.ntmps71
    go_wp2_with fail
    go_ret
    exact OutI.lit w _ [0] _ _ rfl (by unfold maxLen; decide) rfl
  · have t0 : ((c.toNat : Int) == 32) = false := by simpa using a0
    by_cases a1 : isSm c = true
    · rw [one_sm a0 a1]
      have b1 : 97 ≤ (c.toNat : Int) ∧ (c.toNat : Int) ≤ 122 := by simp [isSm] at a1; omega
      obtain ⟨b1, b2⟩ := b1
      clear a0 a1
      go_enter Tryd.func71, Tryd.ntmps71
      go_wp2_with fail
      go_ret
      exact OutI.lit w _ [_] _ _ rfl (by unfold maxLen; simp) rfl
    · rw [Bool.not_eq_true] at a1
      by_cases a2 : isCp c = true
      · rw [one_cp a0 a1 a2]
        have b1 : 65 ≤ (c.toNat : Int) ∧ (c.toNat : Int) ≤ 90 := by simp [isCp] at a2; omega
        obtain ⟨b1, b2⟩ := b1
        clear a0 a1 a2
        go_enter Tryd.func71, Tryd.ntmps71
        go_wp2_with fail
        go_ret
        exact OutI.lit w _ [27, _] _ _ rfl (by unfold maxLen; simp) rfl
      · rw [Bool.not_eq_true] at a2
        have b1 : decide (97 ≤ (c.toNat : Int)) = false ∨ decide (97 ≤ (c.toNat : Int)) = true ∧ decide ((c.toNat : Int) ≤ 122) = false := by simp [isSm] at a1 ⊢; omega
        have b2 : decide (65 ≤ (c.toNat : Int)) = false ∨ decide (65 ≤ (c.toNat : Int)) = true ∧ decide ((c.toNat : Int) ≤ 90) = false := by simp [isCp] at a2 ⊢; omega
        have hs := signI_le c
        obtain ⟨z, hz⟩ : ∃ z, z = signI c := ⟨_, rfl⟩
        by_cases a3 : 0 ≤ signI c
        · rw [one_sg a0 a1 a2 a3]
          rw [← hz] at hs a3 ⊢
          have HZ := Lib.hid hz
          obtain ⟨s1, s2⟩ := hs
          clear a0 a1 a2 hz
          rcases b1 with b1 | ⟨b1, b1'⟩ <;> rcases b2 with b2 | ⟨b2, b2'⟩
          all_goals
            go_enter Tryd.func71, Tryd.ntmps71
            go_wp2_with fail
            refine (rsign_any w c).mono ?_
            rintro e w1 ⟨rfl, rfl⟩
            rw [← HZ.out]
            go_wp2_with fail
            refine (rsign_any w c).mono ?_
            rintro e w1 ⟨rfl, rfl⟩
            rw [← HZ.out]
            go_wp2_with fail
            go_ret
            exact OutI.lit w _ [28, _] _ _ rfl (by unfold maxLen; simp) rfl
        · have a3' : signI c < 0 := by omega
          rw [one_by a0 a1 a2 a3']
          rw [← hz] at hs a3'
          have HZ := Lib.hid hz
          clear a0 a1 a2 hz a3 hs
          rcases b1 with b1 | ⟨b1, b1'⟩ <;> rcases b2 with b2 | ⟨b2, b2'⟩
          all_goals
            go_enter Tryd.func71, Tryd.ntmps71
            go_wp2_with fail
            refine (rsign_any w c).mono ?_
            rintro e w1 ⟨rfl, rfl⟩
            rw [← HZ.out]
            go_wp2_with fail
            go_ret
            exact OutI.lit w _ [29, _, _] _ _ rfl (by unfold maxLen; simp) rfl

/-- What a function leaves that hands back ints in a row of its own, and an error. -/
def OutIE (base : Nat) (t : TypeId) (w : World) (zs : List Int) (er : Int) (e : Ending) (w' : World) : Prop :=
  ∃ A n c, e = .returned (.tuple #[.slice A n c, .int .i64 er]) ∧ w'.ownsRow base t 1 (.slice A n c) n (iv zs) ∧ Below base w w'

/-- what Codes comes to -/
def cdZ (l : List UInt8) : List Int := if textB l then codes l else []
def cdE (l : List UInt8) : Int := if textB l then 0 else 13

theorem codes_take {s : ByteArray} {j : Nat} (h : j < s.size) : codes (s.data.toList.take (j + 1)) = codes (s.data.toList.take j) ++ oneL s[j] := by
  have hl : s.data.toList.length = s.size := by rw [Array.length_toList]; rfl
  rw [List.take_succ_eq_append_getElem (by omega), codes_snoc]
  rfl

theorem iv_take_succ {zs ys : List Int} {k : Nat} (h : k < ys.length) : iv (zs ++ ys.take (k + 1)) = iv (zs ++ ys.take k) ++ [.int .i64 (ys.getD k 0)] := by
  rw [List.take_succ_eq_append_getElem h, ← List.append_assoc, iv_snoc]
  simp [List.getD, h]

set_option maxRecDepth 100000 in
set_option maxHeartbeats 1600000 in
theorem rcodes_any (w : World) (s : ByteArray) (hs : (s.size : Int) ≤ 100000) :
    Calls Tryd.prog 48 #[.string s] w (OutIE w.heap.size 3 w (cdZ s.data.toList) (cdE s.data.toList)) := by
  obtain ⟨i0, hi, hz0, hsz, hby⟩ := inf_parts Tryd.inf_int
  have HI := Lib.hid hi
  have HZ0 := Lib.hid hz0
  have HSZ := Lib.hid hsz
  have HBY := Lib.hid hby
  clear hi hz0 hsz hby
  by_cases ht : textB s.data.toList = true
  · have e1 : cdZ s.data.toList = codes s.data.toList := by unfold cdZ; rw [if_pos ht]
    have e2 : cdE s.data.toList = 0 := by unfold cdE; rw [if_pos ht]
    rw [e1, e2]
    have HT := Lib.hid ht
    clear e1 e2 ht
    go_enter Tryd.func48, Tryd.ntmps48
    go_wp2_with fail
    refine (rtext_any w s (by omega)).mono ?_
    rintro e w1 ⟨rfl, rfl⟩
    rw [HT.out]
    go_wp2_with fail
    go_loopw [4, 5] (fun v i wr => ∃ (A : Option Addr) (n c j : Nat), j ≤ s.size ∧ i = .int .i64 j ∧ v = .slice A n c ∧ Hid (wr.ownsRow w.heap.size 3 1 (.slice A n c) n (iv (codes (s.data.toList.take j)))) ∧ Hid (Below w.heap.size w wr)) (fun _ i _ => s.size - (intOf i).toNat)
    case atStart => exact ⟨none, 0, 0, 0, Nat.zero_le _, rfl, rfl, Lib.hid (ownI_nil w _ _), Lib.hid (Below.refl _ _)⟩
    case round =>
      obtain ⟨A, n, c, j, hj, rfl, rfl, HO, HB⟩ := hrel
      by_cases hlt : j < s.size
      · go_wp2_with fail
        refine (rone_any wr s[j]).mono ?_
        rintro e w2 ⟨A1, m, c1, rfl, ho1, hb1⟩
        have HT2 := Lib.hid (Two.start HO.out HB.out ho1 (oneL_fit _) hb1)
        have hm : m ≤ 3 := by have := ownI_len ho1; have := oneL_len s[j]; omega
        have hm1 : m = (oneL s[j]).length := (ownI_len ho1).symm
        have HM := Lib.hid hm1
        have HCT := Lib.hid (codes_take hlt)
        clear ho1 hb1 HO HB hm1
        have hnl : n ≤ 300000 := by
          have h1 := ownI_len HT2.out.own
          have h2 := codes_len (s.data.toList.take j)
          rw [List.length_take] at h2
          omega
        go_wp2_with fail
        go_loopw [4, 7] (fun v i wr => ∃ (A : Option Addr) (n' c k : Nat), k ≤ m ∧ i = .int .i64 k ∧ v = .slice A n' c ∧ Hid (n' = n + k) ∧ Hid (Two w wr 3 A n' c (iv (codes (s.data.toList.take j) ++ (oneL s[j]).take k)) A1 m (oneL s[j]))) (fun _ i _ => m - (intOf i).toNat)
        case atStart => exact ⟨A, n, c, 0, Nat.zero_le _, rfl, rfl, Lib.hid rfl, Lib.hid (by rw [List.take_zero, List.append_nil]; exact HT2.out)⟩
        case round =>
          obtain ⟨A2, n2, c2, k, hk, rfl, rfl, hn2, HT3⟩ := hrel
          by_cases hlt2 : k < m
          · obtain ⟨ad, rfl, hab, hcell⟩ := HT3.out.rd.2.1 (by omega)
            have hkl : k < (oneL s[j]).length := by have := HM.out; omega
            have hc := hcell k hkl
            clear hcell
            have hsucc := Lib.hid (iv_take_succ (zs := codes (s.data.toList.take j)) hkl)
            obtain ⟨z, hz⟩ : ∃ z, z = (oneL s[j]).getD k 0 := ⟨_, rfl⟩
            rw [← hz] at hc hsucc
            clear hz
            have hsz := HT3.out.bel.size
            have hn3 : n2 ≤ 300003 := by have := hn2.out; omega
            go_wp2_with (at_builtin; refine wpList_app1L _ rfl _ _ 25 rfl w.heap.size 3 i0 _ 8 Tryd.underlying25 HI.out HZ0.out HSZ.out HBY.out rfl _ n2 _ rfl (HT3.out.own.alloc _) ⟨_, 0, none⟩ 1 (.int .i64 z) rfl (new_cell _ _ _) rfl (by omega) (by unfold maxLen; omega) (by simp; omega) ?_; intro A3 c3 w8 hown2 hg2 hw2)
            have HT4 := Lib.hid (HT3.out.push hown2 hg2 hw2)
            clear hown2 hg2 hw2
            go_roundw
            case rel => exact ⟨A3, n2 + 1, c3, k + 1, by omega, by go_num, rfl, Lib.hid (by have := hn2.out; omega), Lib.hid (by rw [hsucc.out]; exact HT4.out)⟩
            case measure => simp [intOf]; omega
          · obtain rfl : k = m := by omega
            go_wp2_with fail
            go_roundw
            case rel =>
              refine ⟨A2, n2, c2, j + 1, by omega, by go_num, rfl, Lib.hid ?_, Lib.hid HT3.out.bel⟩
              have h := HT3.out.own
              rw [List.take_of_length_le (l := oneL s[j]) (by have := HM.out; omega), ← HCT.out] at h
              exact h
            case measure => simp [intOf]; omega
      · have HE : Hid (s.data.toList.take j = s.data.toList) := Lib.hid (List.take_of_length_le (by rw [Array.length_toList]; show s.size ≤ j; omega))
        go_wp2_with fail
        go_ret2
        refine ⟨A, n, c, rfl, ?_, HB.out⟩
        have h := HO.out
        rw [HE.out] at h
        exact h
  · rw [Bool.not_eq_true] at ht
    have e1 : cdZ s.data.toList = [] := by unfold cdZ; rw [ht]; rfl
    have e2 : cdE s.data.toList = 13 := by unfold cdE; rw [ht]; rfl
    rw [e1, e2]
    have HT := Lib.hid ht
    clear e1 e2 ht
    go_enter Tryd.func48, Tryd.ntmps48
    go_wp2_with fail
    refine (rtext_any w s (by omega)).mono ?_
    rintro e w1 ⟨rfl, rfl⟩
    rw [HT.out]
    go_wp2_with fail
    go_ret2
    exact ⟨none, 0, 0, rfl, ownI_nil _ _ _, Below.refl _ _⟩

theorem text_one {s : ByteArray} {j : Nat} (h : j < s.size) : textB (s.extract j (j + 1)).data.toList = isTx s[j] := by
  have hl : s.data.toList.length = s.size := by rw [Array.length_toList]; rfl
  have e : (s.extract j (j + 1)).data.toList = [s[j]] := by
    rw [ByteArray.data_extract, Array.toList_extract, List.extract_eq_take_drop, show j + 1 - j = 1 from by omega, List.drop_eq_getElem_cons (by omega)]
    rfl
  rw [e]
  unfold textB
  simp

theorem cost_take {s : ByteArray} {j : Nat} (h : j < s.size) : costL (s.data.toList.take (j + 1)) = costL (s.data.toList.take j) + if isTx s[j] then (oneL s[j]).length else 0 := by
  have hl : s.data.toList.length = s.size := by rw [Array.length_toList]; rfl
  rw [List.take_succ_eq_append_getElem (by omega), costL_append, ← costL_one]
  rfl

set_option maxRecDepth 100000 in
set_option maxHeartbeats 1600000 in
theorem rcost_any (w : World) (s : ByteArray) (hs : (s.size : Int) ≤ 100000) :
    Calls Tryd.prog 50 #[.string s] w fun e w' => e = .returned (.int .i64 (costL s.data.toList : Nat)) ∧ Below w.heap.size w w' := by
  go_enter Tryd.func50, Tryd.ntmps50
  go_wp2_with fail
  go_loopw [3, 4] (fun v i wr => ∃ (j q : Nat), j ≤ s.size ∧ i = .int .i64 j ∧ v = .int .i64 q ∧ Hid (q = costL (s.data.toList.take j)) ∧ Hid (Below w.heap.size w wr)) (fun _ i _ => s.size - (intOf i).toNat)
  case atStart => exact ⟨0, 0, Nat.zero_le _, rfl, rfl, Lib.hid rfl, Lib.hid (Below.refl _ _)⟩
  case round =>
    obtain ⟨j, q, hj, rfl, rfl, HQ, HB⟩ := hrel
    by_cases hlt : j < s.size
    · have hq : q ≤ 300000 := by
        have h1 := HQ.out
        have h2 := costL_le (s.data.toList.take j)
        rw [List.length_take] at h2
        omega
      have HT := Lib.hid (text_one hlt)
      have HC := Lib.hid (cost_take hlt)
      have hsx : ((s.extract j (j + 1)).size : Int) ≤ 1000000 := by
        rw [ByteArray.size_extract]
        omega
      have HSX := Lib.hid hsx
      clear hsx
      by_cases ht : isTx s[j] = true
      · have HC2 : Hid (costL (s.data.toList.take (j + 1)) = costL (s.data.toList.take j) + (oneL s[j]).length) := Lib.hid (by rw [HC.out, if_pos ht])
        have HT2 : Hid (textB (s.extract j (j + 1)).data.toList = true) := Lib.hid (HT.out.trans ht)
        clear HC HT ht
        go_wp2_with fail
        refine (rtext_any wr _ HSX.out).mono ?_
        rintro e w1 ⟨rfl, rfl⟩
        rw [HT2.out]
        go_wp2_with fail
        refine (rone_any wr s[j]).mono ?_
        rintro e w2 ⟨A1, m, c1, rfl, ho1, hb1⟩
        have hm : m ≤ 3 := by have := ownI_len ho1; have := oneL_len s[j]; omega
        have HM := Lib.hid (ownI_len ho1)
        have HB2 := Lib.hid (HB.out.trans (hb1.mono HB.out.size))
        clear ho1 hb1 HB
        go_wp2_with fail
        go_roundw
        case rel => exact ⟨j + 1, q + m, by omega, by go_num, by go_num, Lib.hid (by rw [HC2.out, ← HQ.out, HM.out]), HB2⟩
        case measure => simp [intOf]; omega
      · rw [Bool.not_eq_true] at ht
        have HC2 : Hid (costL (s.data.toList.take (j + 1)) = costL (s.data.toList.take j)) := Lib.hid (by rw [HC.out, ht]; rfl)
        have HT2 : Hid (textB (s.extract j (j + 1)).data.toList = false) := Lib.hid (HT.out.trans ht)
        clear HC HT ht
        go_wp2_with fail
        refine (rtext_any wr _ HSX.out).mono ?_
        rintro e w1 ⟨rfl, rfl⟩
        rw [HT2.out]
        go_wp2_with fail
        go_roundw
        case rel => exact ⟨j + 1, q, by omega, by go_num, rfl, Lib.hid (by rw [HC2.out, ← HQ.out]), HB⟩
        case measure => simp [intOf]; omega
    · have HE : Hid (s.data.toList.take j = s.data.toList) := Lib.hid (List.take_of_length_le (by rw [Array.length_toList]; show s.size ≤ j; omega))
      go_wp2_with fail
      go_ret
      exact ⟨ret_int (by rw [HQ.out, HE.out]), HB.out⟩

/-- equal lists of ints -/
def eqI (zs ys : List Int) : Bool := decide (zs = ys)

theorem eqI_len {zs ys : List Int} (h : zs.length ≠ ys.length) : eqI zs ys = false := by
  unfold eqI
  rw [decide_eq_false]
  rintro rfl
  exact h rfl

theorem eqI_at {zs ys : List Int} {j : Nat} (h : zs.getD j 0 ≠ ys.getD j 0) : eqI zs ys = false := by
  unfold eqI
  rw [decide_eq_false]
  rintro rfl
  exact h rfl

theorem eqI_all {zs ys : List Int} (h0 : zs.length = ys.length) (h : ∀ m, m < zs.length → zs.getD m 0 = ys.getD m 0) : eqI zs ys = true := by
  unfold eqI
  rw [decide_eq_true_eq]
  refine List.ext_getElem h0 fun m h1 h2 => ?_
  have e := h m h1
  simpa [List.getD, h1, h2] using e

theorem bool_ret6 {a b : Bool} (h : a = b) : Ending.returned (.bool a) = .returned (.bool b) := by rw [h]

/-- a list begins with another -/
def begI (zs ys : List Int) : Bool := decide (zs.take ys.length = ys)

theorem begI_long {zs ys : List Int} (h : zs.length < ys.length) : begI zs ys = false := by
  unfold begI
  rw [decide_eq_false]
  intro e
  have := congrArg List.length e
  rw [List.length_take] at this
  omega

theorem begI_at {zs ys : List Int} {j : Nat} (hj : j < ys.length) (h : zs.getD j 0 ≠ ys.getD j 0) : begI zs ys = false := by
  unfold begI
  rw [decide_eq_false]
  intro e
  refine h ?_
  rw [← e]
  simp [List.getD, hj]

theorem begI_all {zs ys : List Int} (h0 : ys.length ≤ zs.length) (h : ∀ m, m < ys.length → zs.getD m 0 = ys.getD m 0) : begI zs ys = true := by
  unfold begI
  rw [decide_eq_true_eq]
  refine List.ext_getElem (by rw [List.length_take]; omega) fun m h1 h2 => ?_
  have e := h m h2
  rw [List.getElem_take]
  simpa [List.getD, h2, show m < zs.length from by omega] using e

theorem begI_split {zs ys : List Int} (h : begI zs ys = true) : zs = ys ++ zs.drop ys.length := by
  unfold begI at h
  rw [decide_eq_true_eq] at h
  have e := List.take_append_drop ys.length zs
  rw [h] at e
  exact e.symm

theorem begI_mk (ys r : List Int) : begI (ys ++ r) ys = true := by
  unfold begI
  rw [decide_eq_true_eq, List.take_left]

theorem getD_drop (zs : List Int) (k m : Nat) : (zs.drop k).getD m 0 = zs.getD (k + m) 0 := by
  simp [List.getD, List.getElem?_drop]

/-- what Text tells of numbers: the text whose codes they are, or that there is none -/
def TextRel (zs : List Int) (t : List UInt8) (er : Int) : Prop :=
  (textB t = true ∧ codes t = zs ∧ er = 0) ∨ (t = [] ∧ er = 16 ∧ ∀ u, textB u = true → codes u ≠ zs)

theorem TextRel.unique {zs : List Int} {t t' : List UInt8} {er er' : Int} (h : TextRel zs t er) (h' : TextRel zs t' er') : t = t' ∧ er = er' := by
  rcases h with ⟨h1, h2, h3⟩ | ⟨h1, h2, h3⟩ <;> rcases h' with ⟨g1, g2, g3⟩ | ⟨g1, g2, g3⟩
  · exact ⟨codes_inj (h2.trans g2.symm), h3.trans g3.symm⟩
  · exact absurd h2 (g3 t h1)
  · exact absurd g2 (h3 t' g1)
  · exact ⟨h1.trans g1.symm, h2.trans g2.symm⟩

def TextOut (w : World) (zs : List Int) (e : Ending) (w' : World) : Prop :=
  ∃ t er, TextRel zs t er ∧ e = .returned (.tuple #[.string (bs t), .int .i64 er]) ∧ Below w.heap.size w w'

/-- the byte that comes next, as far as it was sought -/
def NextOk (zs : List Int) (c : Nat) (d : Int) : Prop :=
  (d = -1 ∧ ∀ b : UInt8, isTx b = true → b.toNat < c → begI zs (oneL b) = false) ∨ ∃ b : UInt8, (b.toNat : Int) = d ∧ isTx b = true ∧ begI zs (oneL b) = true

theorem tx_range {b : UInt8} (h : isTx b = true) : 10 ≤ b.toNat ∧ b.toNat < 127 := by
  simp [isTx] at h
  omega

theorem textB_all {t : List UInt8} (h : textB t = true) : t.all isTx = true := by
  unfold textB at h
  simp only [Bool.and_eq_true] at h
  first | exact h.1 | exact h.2

theorem text_none {zs : List Int} {t : List UInt8} {k : Nat} (hk : k < zs.length) (hc : codes t ++ zs.drop k = zs) (h : NextOk (zs.drop k) 127 (-1)) : TextRel zs [] 16 := by
  refine .inr ⟨rfl, rfl, fun u hu he => ?_⟩
  obtain ⟨c, r', hc1, hr⟩ := no_text (s := t) (r := zs.drop k) (textB_all hu) (he.trans hc.symm) (by
    intro e
    have := congrArg List.length e
    rw [List.length_drop, List.length_nil] at this
    omega)
  rcases h with ⟨_, h⟩ | ⟨b, hb, _⟩
  · have := h c hc1 (tx_range hc1).2
    rw [hr, begI_mk] at this
    cases this
  · omega

theorem NextOk.no {zs : List Int} {c : Nat} {d : Int} (h : NextOk zs c d) (hn : ∀ b : UInt8, isTx b = true → b.toNat = c → begI zs (oneL b) = false) : NextOk zs (c + 1) d := by
  rcases h with ⟨h1, h2⟩ | h
  · refine .inl ⟨h1, fun b hb hlt => ?_⟩
    by_cases e : b.toNat = c
    · exact hn b hb e
    · exact h2 b hb (by omega)
  · exact .inr h

theorem bs_snoc (t : List UInt8) (b : UInt8) : bs t ++ ⟨#[b]⟩ = bs (t ++ [b]) := by
  apply ByteArray.ext
  simp [bs]

theorem unb_get : ∀ (l : List UInt8) (i : Nat), i < 8 * l.length → (unb l).getD i 0 = (l.getD (i / 8) 0).toNat / 2 ^ (7 - i % 8) % 2 := by
  intro l
  induction l with
  | nil => intro i h; simp at h
  | cons c l ih =>
    intro i h
    rw [List.length_cons] at h
    rw [unb_cons]
    by_cases h8 : i < 8
    · have e0 : i / 8 = 0 := by omega
      have e1 : i % 8 = i := by omega
      rw [e0, e1]
      rcases (by omega : i = 0 ∨ i = 1 ∨ i = 2 ∨ i = 3 ∨ i = 4 ∨ i = 5 ∨ i = 6 ∨ i = 7) with rfl | rfl | rfl | rfl | rfl | rfl | rfl | rfl <;> simp [bits8]
    · have e2 := ih (i - 8) (by omega)
      have e3 : i / 8 = (i - 8) / 8 + 1 := by omega
      have e4 : i % 8 = (i - 8) % 8 := by omega
      rw [e3, e4]
      rw [List.getD, List.getElem?_append_right (by rw [bits8_len]; omega), bits8_len]
      simpa [List.getD] using e2

/-- what Unpack comes to -/
def upZ : Unp → List Int
  | .ok l => l
  | _ => []
def upE : Unp → Int
  | .ok _ => 0
  | .short => 2
  | .long => 3
  | .form => 4

theorem five {l : List Nat} (h : 5 ≤ l.length) : ∃ a b c d e r, l = a :: b :: c :: d :: e :: r := by
  match l, h with
  | a :: b :: c :: d :: e :: r, _ => exact ⟨a, b, c, d, e, r, rfl⟩

theorem unp_drop (acc : List Int) {u : List Nat} {t : Nat} (h : t + 5 ≤ u.length) : unp acc (u.drop t) =
    if num2 ((u.drop t).take 5) = 31 then (if 8 ≤ u.length - (t + 5) then .long else if (u.drop (t + 5)).any (fun x => x == 1) then .form else .ok acc)
    else unp (acc ++ [(num2 ((u.drop t).take 5) : Int)]) (u.drop (t + 5)) := by
  obtain ⟨a, b, c, d, e, r, he⟩ := five (l := u.drop t) (by rw [List.length_drop]; omega)
  have hr : u.drop (t + 5) = r := by rw [← List.drop_drop, he]; rfl
  have hl : u.length - (t + 5) = r.length := by rw [← hr, List.length_drop]
  rw [hr, hl, he, unp_five]
  rfl

theorem unp_short (acc : List Int) {u : List Nat} (h : u.length < 5) : unp acc u = .short := by
  match u, h with
  | [], _ => rfl
  | [_], _ => rfl
  | [_, _], _ => rfl
  | [_, _, _], _ => rfl
  | [_, _, _, _], _ => rfl

theorem any_at {l : List Nat} {j : Nat} (hj : j < l.length) (h : l.getD j 0 = 1) : l.any (fun x => x == 1) = true := by
  rw [List.any_eq_true]
  refine ⟨l[j], List.getElem_mem hj, ?_⟩
  have e : l[j] = 1 := by simpa [List.getD, hj] using h
  rw [e]
  rfl

theorem any_none {l : List Nat} (h : ∀ j, j < l.length → l.getD j 0 ≠ 1) : l.any (fun x => x == 1) = false := by
  rw [List.any_eq_false]
  intro x hx
  obtain ⟨j, hj, rfl⟩ := List.getElem_of_mem hx
  have := h j hj
  simp only [List.getD, List.getElem?_eq_getElem hj, Option.getD_some] at this
  simpa using this

theorem getD_dropN (u : List Nat) (k m : Nat) : (u.drop k).getD m 0 = u.getD (k + m) 0 := by
  simp [List.getD, List.getElem?_drop]

/-- bits as ints -/
def nb (l : List Nat) : List Int := l.map (fun b : Nat => (b : Int))

theorem nb_length (l : List Nat) : (nb l).length = l.length := by simp [nb]
theorem nb_append (l m : List Nat) : nb (l ++ m) = nb l ++ nb m := by simp [nb]
theorem nb_getD (l : List Nat) (j : Nat) : (nb l).getD j 0 = ((l.getD j 0 : Nat) : Int) := by
  simp only [nb, List.getD, List.getElem?_map]
  cases l[j]? <;> simp
theorem nb_fit {l : List Nat} (h : isBits l) : FitI (nb l) := FitI.of_mem fun z hz => by
  unfold nb at hz
  obtain ⟨b, hb, rfl⟩ := List.mem_map.1 hz
  have := h b hb
  omega

/-- the bits of the first j codes, the end code counted as the last -/
def bitsUp (zs : List Int) (j : Nat) : List Nat := ((zs ++ [31]).take j).flatMap bits5

theorem bitsUp_zero (zs : List Int) : bitsUp zs 0 = [] := rfl
theorem bitsUp_all (zs : List Int) : bitsUp zs (zs.length + 1) = raw zs := by
  unfold bitsUp raw
  rw [List.take_of_length_le (by simp), List.flatMap_append]
  simp
theorem bitsUp_len (zs : List Int) {j : Nat} (h : j ≤ zs.length + 1) : (bitsUp zs j).length = 5 * j := by
  unfold bitsUp
  rw [flat5_len, List.length_take, List.length_append, List.length_singleton]
  omega
theorem bitsUp_code {zs : List Int} {j : Nat} (h : j < zs.length) : bitsUp zs (j + 1) = bitsUp zs j ++ bits5 (zs.getD j 0) := by
  unfold bitsUp
  rw [List.take_succ_eq_append_getElem (by simp; omega), List.flatMap_append]
  simp [List.getD, h]
theorem bitsUp_end (zs : List Int) : bitsUp zs (zs.length + 1) = bitsUp zs zs.length ++ bits5 31 := by
  unfold bitsUp
  rw [List.take_succ_eq_append_getElem (by simp), List.flatMap_append]
  simp

theorem push5 (U : List Nat) (z : Int) (q m k : Nat) (h : (bits5 z)[m]? = some (q / k % 2)) :
    iv (nb (U ++ (bits5 z).take (m + 1))) = iv (nb (U ++ (bits5 z).take m)) ++ [.int .i64 ((q : Int) / (k : Int) % 2)] := by
  have hm : m < (bits5 z).length := (List.getElem?_eq_some_iff.1 h).1
  have he : (bits5 z)[m] = q / k % 2 := (List.getElem?_eq_some_iff.1 h).2
  rw [List.take_succ_eq_append_getElem hm, he, ← List.append_assoc, nb_append (U ++ _), iv_append]
  simp [nb, iv]

def sliceLen : Value → Nat
  | .slice _ n _ => n
  | _ => 0

theorem tmod32 (z : Int) : (z.tmod 32 + 32) % 32 = z % 32 := by
  have h := Int.tmod_eq_emod (a := z) (b := 32)
  split at h <;> omega

theorem tmod32_bd (z : Int) : -32 < z.tmod 32 ∧ z.tmod 32 < 32 := by
  have h := Int.tmod_eq_emod (a := z) (b := 32)
  split at h <;> omega

/-- eight more bits are one more byte -/
theorem byte_more {u : List Nat} {L : List UInt8} {i M : Nat} (hu : u.length = 8 * M) (hb : isBits u) (hi : i < M) (h : unb L = u.take (8 * i)) :
    num2 ((u.drop (8 * i)).take 8) < 256 ∧ unb (L ++ [UInt8.ofNat (num2 ((u.drop (8 * i)).take 8))]) = u.take (8 * (i + 1)) := by
  have hl : ((u.drop (8 * i)).take 8).length = 8 := by rw [List.length_take, List.length_drop]; omega
  have hb2 : isBits ((u.drop (8 * i)).take 8) := fun x hx => hb x (List.mem_of_mem_drop (List.mem_of_mem_take hx))
  refine ⟨num2_lt 8 _ hl hb2, ?_⟩
  rw [unb_append, h, unb_cons, unb_nil, List.append_nil, bits8_of hl hb2, show 8 * (i + 1) = 8 * i + 8 from by omega, List.take_add]

set_option maxRecDepth 100000 in
set_option maxHeartbeats 12800000 in
theorem rpack_any (w : World) (A : Option Addr) (n c : Nat) (zs : List Int) (h : RdI w w.heap.size A n zs) (hn : (n : Int) ≤ 100000) :
    Calls Tryd.prog 26 #[.slice A n c] w (OutO w.heap.size w (packL zs)) := by
  obtain ⟨i0, hi, hz0, hsz, hby⟩ := inf_parts Tryd.inf_int
  have HI := Lib.hid hi
  have HZ0 := Lib.hid hz0
  have HSZ := Lib.hid hsz
  have HBY := Lib.hid hby
  clear hi hz0 hsz hby
  have H := Lib.hid h
  have HL := Lib.hid h.1
  clear h
  go_enter Tryd.func26, Tryd.ntmps26
  go_wp2_with fail
  go_loopw [3, 4] (fun v i wr => ∃ (A : Option Addr) (nn c j : Nat), j ≤ n + 1 ∧ i = .int .i64 j ∧ v = .slice A nn c ∧ Hid (nn = 5 * j) ∧ Hid (wr.ownsRow w.heap.size 3 1 (.slice A nn c) nn (iv (nb (bitsUp zs j)))) ∧ Hid (Below w.heap.size w wr)) (fun _ i _ => n + 1 - (intOf i).toNat)
  case atStart => exact ⟨none, 0, 0, 0, Nat.zero_le _, rfl, rfl, Lib.hid rfl, Lib.hid (ownI_nil w _ _), Lib.hid (Below.refl _ _)⟩
  case round =>
    obtain ⟨A1, nn, c1, j, hj, rfl, rfl, HN, HO, HB⟩ := hrel
    by_cases hlt : j ≤ n
    · have hnn : nn ≤ 500000 := by have := HN.out; omega
      by_cases hlt2 : j < n
      · obtain ⟨ad, rfl, hab, hcell⟩ := H.out.2.1 (by omega)
        have hc := (HB.out.cell (p := ad.add j) (by rw [blk_add]; exact hab)).trans (hcell j (by rw [HL.out]; exact hlt2))
        obtain ⟨z, hz⟩ : ∃ z, z = zs.getD j 0 := ⟨_, rfl⟩
        rw [← hz] at hc
        clear hcell
        obtain ⟨U, hU⟩ : ∃ U, U = bitsUp zs j := ⟨_, rfl⟩
        have HU := Lib.hid hU
        have HNX : Hid (bitsUp zs (j + 1) = U ++ bits5 z) := Lib.hid (by rw [hU, hz]; exact bitsUp_code (by rw [HL.out]; exact hlt2))
        clear hU hz
        obtain ⟨q, hq⟩ : ∃ q : Nat, q = (z % 32).toNat := ⟨_, rfl⟩
        have hq32 : (z.tmod 32 + 32) % 32 = (q : Int) := by rw [tmod32]; omega
        have hqb : q < 32 := by omega
        obtain ⟨hb1, hb2⟩ := tmod32_bd z
        have HQ := Lib.hid hq.symm
        have HQ32 := Lib.hid hq32
        clear hq hq32
        go_wp2_with fail
        rw [HQ32.out]
        go_loopw [3, 6] (fun v i wi => ∃ (A2 : Option Addr) (n2 c2 m : Nat) (kk : Int), ((m = 0 ∧ kk = 16) ∨ (m = 1 ∧ kk = 8) ∨ (m = 2 ∧ kk = 4) ∨ (m = 3 ∧ kk = 2) ∨ (m = 4 ∧ kk = 1) ∨ (m = 5 ∧ kk = 0)) ∧ i = .int .i64 kk ∧ v = .slice A2 n2 c2 ∧ Hid (n2 = nn + m) ∧ Hid (wi.ownsRow w.heap.size 3 1 (.slice A2 n2 c2) n2 (iv (nb (U ++ (bits5 z).take m)))) ∧ Hid (Below w.heap.size w wi)) (fun _ i _ => (intOf i).toNat)
        case atStart => exact ⟨A1, nn, c1, 0, 16, .inl ⟨rfl, rfl⟩, rfl, rfl, Lib.hid rfl, Lib.hid (by rw [List.take_zero, List.append_nil, HU.out]; exact HO.out), HB⟩
        case round =>
          obtain ⟨A2, n2, c2, m, kk, hmk, rfl, rfl, HN2, HO2, HB2⟩ := hrel
          have hn2 : n2 ≤ 500005 := by have := HN2.out; omega
          have hz2 := HB2.out.size
          rcases hmk with ⟨rfl, rfl⟩ | ⟨rfl, rfl⟩ | ⟨rfl, rfl⟩ | ⟨rfl, rfl⟩ | ⟨rfl, rfl⟩ | ⟨rfl, rfl⟩
          · go_wp2_with (at_builtin; refine wpList_app1L _ rfl _ _ 25 rfl w.heap.size 3 i0 _ 8 Tryd.underlying25 HI.out HZ0.out HSZ.out HBY.out rfl _ n2 _ rfl (HO2.out.alloc _) ⟨_, 0, none⟩ 1 (.int .i64 ((q : Int) / 16 % 2)) rfl (new_cell _ _ _) rfl (by omega) (by unfold maxLen; omega) (by simp; omega) ?_; intro A3 c3 w8 hown2 hg2 hw2)
            have HO3 := Lib.hid hown2
            have HB3 := Lib.hid (app_below HO2.out HB2.out hg2)
            clear hown2 hg2 hw2
            go_roundw
            case rel => exact ⟨A3, n2 + 1, c3, 1, 8, .inr (.inl ⟨rfl, rfl⟩), rfl, rfl, Lib.hid (by have := HN2.out; omega), Lib.hid (by rw [push5 U z q 0 16 (by rw [← HQ.out]; simp [bits5])]; exact HO3.out), HB3⟩
            case measure => simp [intOf]
          · go_wp2_with (at_builtin; refine wpList_app1L _ rfl _ _ 25 rfl w.heap.size 3 i0 _ 8 Tryd.underlying25 HI.out HZ0.out HSZ.out HBY.out rfl _ n2 _ rfl (HO2.out.alloc _) ⟨_, 0, none⟩ 1 (.int .i64 ((q : Int) / 8 % 2)) rfl (new_cell _ _ _) rfl (by omega) (by unfold maxLen; omega) (by simp; omega) ?_; intro A3 c3 w8 hown2 hg2 hw2)
            have HO3 := Lib.hid hown2
            have HB3 := Lib.hid (app_below HO2.out HB2.out hg2)
            clear hown2 hg2 hw2
            go_roundw
            case rel => exact ⟨A3, n2 + 1, c3, 2, 4, .inr (.inr (.inl ⟨rfl, rfl⟩)), rfl, rfl, Lib.hid (by have := HN2.out; omega), Lib.hid (by rw [push5 U z q 1 8 (by rw [← HQ.out]; simp [bits5])]; exact HO3.out), HB3⟩
            case measure => simp [intOf]
          · go_wp2_with (at_builtin; refine wpList_app1L _ rfl _ _ 25 rfl w.heap.size 3 i0 _ 8 Tryd.underlying25 HI.out HZ0.out HSZ.out HBY.out rfl _ n2 _ rfl (HO2.out.alloc _) ⟨_, 0, none⟩ 1 (.int .i64 ((q : Int) / 4 % 2)) rfl (new_cell _ _ _) rfl (by omega) (by unfold maxLen; omega) (by simp; omega) ?_; intro A3 c3 w8 hown2 hg2 hw2)
            have HO3 := Lib.hid hown2
            have HB3 := Lib.hid (app_below HO2.out HB2.out hg2)
            clear hown2 hg2 hw2
            go_roundw
            case rel => exact ⟨A3, n2 + 1, c3, 3, 2, .inr (.inr (.inr (.inl ⟨rfl, rfl⟩))), rfl, rfl, Lib.hid (by have := HN2.out; omega), Lib.hid (by rw [push5 U z q 2 4 (by rw [← HQ.out]; simp [bits5])]; exact HO3.out), HB3⟩
            case measure => simp [intOf]
          · go_wp2_with (at_builtin; refine wpList_app1L _ rfl _ _ 25 rfl w.heap.size 3 i0 _ 8 Tryd.underlying25 HI.out HZ0.out HSZ.out HBY.out rfl _ n2 _ rfl (HO2.out.alloc _) ⟨_, 0, none⟩ 1 (.int .i64 ((q : Int) / 2 % 2)) rfl (new_cell _ _ _) rfl (by omega) (by unfold maxLen; omega) (by simp; omega) ?_; intro A3 c3 w8 hown2 hg2 hw2)
            have HO3 := Lib.hid hown2
            have HB3 := Lib.hid (app_below HO2.out HB2.out hg2)
            clear hown2 hg2 hw2
            go_roundw
            case rel => exact ⟨A3, n2 + 1, c3, 4, 1, .inr (.inr (.inr (.inr (.inl ⟨rfl, rfl⟩)))), rfl, rfl, Lib.hid (by have := HN2.out; omega), Lib.hid (by rw [push5 U z q 3 2 (by rw [← HQ.out]; simp [bits5])]; exact HO3.out), HB3⟩
            case measure => simp [intOf]
          · go_wp2_with (at_builtin; refine wpList_app1L _ rfl _ _ 25 rfl w.heap.size 3 i0 _ 8 Tryd.underlying25 HI.out HZ0.out HSZ.out HBY.out rfl _ n2 _ rfl (HO2.out.alloc _) ⟨_, 0, none⟩ 1 (.int .i64 ((q : Int) % 2)) rfl (new_cell _ _ _) rfl (by omega) (by unfold maxLen; omega) (by simp; omega) ?_; intro A3 c3 w8 hown2 hg2 hw2)
            have HO3 := Lib.hid hown2
            have HB3 := Lib.hid (app_below HO2.out HB2.out hg2)
            clear hown2 hg2 hw2
            go_roundw
            case rel => exact ⟨A3, n2 + 1, c3, 5, 0, .inr (.inr (.inr (.inr (.inr ⟨rfl, rfl⟩)))), rfl, rfl, Lib.hid (by have := HN2.out; omega), Lib.hid (by rw [push5 U z q 4 1 (by rw [← HQ.out]; simp [bits5]), show ((1 : Nat) : Int) = 1 from rfl, Int.ediv_one]; exact HO3.out), HB3⟩
            case measure => simp [intOf]
          · go_wp2_with fail
            go_roundw
            case rel => exact ⟨A2, n2, c2, j + 1, by omega, by go_num, rfl, Lib.hid (by have := HN2.out; have := HN.out; omega), Lib.hid (by have h9 := HO2.out; rw [List.take_of_length_le (l := bits5 z) (by rw [bits5_len]; omega), ← HNX.out] at h9; exact h9), HB2⟩
            case measure => simp [intOf] <;> omega
      · obtain rfl : j = n := by omega
        obtain ⟨U, hU⟩ : ∃ U, U = bitsUp zs j := ⟨_, rfl⟩
        have HU := Lib.hid hU
        obtain ⟨z, hz⟩ : ∃ z : Int, z = 31 := ⟨_, rfl⟩
        have HNX : Hid (bitsUp zs (j + 1) = U ++ bits5 z) := Lib.hid (by rw [hU, hz, ← HL.out]; exact bitsUp_end zs)
        obtain ⟨q, hq⟩ : ∃ q : Nat, q = (z % 32).toNat := ⟨_, rfl⟩
        have HQ := Lib.hid hq.symm
        have HZ := Lib.hid hz
        clear hU hz hq HQ
        clear q
        go_wp2_with fail
        go_loopw [3, 6] (fun v i wi => ∃ (A2 : Option Addr) (n2 c2 m : Nat) (kk : Int), ((m = 0 ∧ kk = 16) ∨ (m = 1 ∧ kk = 8) ∨ (m = 2 ∧ kk = 4) ∨ (m = 3 ∧ kk = 2) ∨ (m = 4 ∧ kk = 1) ∨ (m = 5 ∧ kk = 0)) ∧ i = .int .i64 kk ∧ v = .slice A2 n2 c2 ∧ Hid (n2 = nn + m) ∧ Hid (wi.ownsRow w.heap.size 3 1 (.slice A2 n2 c2) n2 (iv (nb (U ++ (bits5 z).take m)))) ∧ Hid (Below w.heap.size w wi)) (fun _ i _ => (intOf i).toNat)
        case atStart => exact ⟨A1, nn, c1, 0, 16, .inl ⟨rfl, rfl⟩, rfl, rfl, Lib.hid rfl, Lib.hid (by rw [List.take_zero, List.append_nil, HU.out]; exact HO.out), HB⟩
        case round =>
          obtain ⟨A2, n2, c2, m, kk, hmk, rfl, rfl, HN2, HO2, HB2⟩ := hrel
          have hn2 : n2 ≤ 500005 := by have := HN2.out; omega
          have hz2 := HB2.out.size
          rcases hmk with ⟨rfl, rfl⟩ | ⟨rfl, rfl⟩ | ⟨rfl, rfl⟩ | ⟨rfl, rfl⟩ | ⟨rfl, rfl⟩ | ⟨rfl, rfl⟩
          · go_wp2_with (at_builtin; refine wpList_app1L _ rfl _ _ 25 rfl w.heap.size 3 i0 _ 8 Tryd.underlying25 HI.out HZ0.out HSZ.out HBY.out rfl _ n2 _ rfl (HO2.out.alloc _) ⟨_, 0, none⟩ 1 (.int .i64 1) rfl (new_cell _ _ _) rfl (by omega) (by unfold maxLen; omega) (by simp; omega) ?_; intro A3 c3 w8 hown2 hg2 hw2)
            have HO3 := Lib.hid hown2
            have HB3 := Lib.hid (app_below HO2.out HB2.out hg2)
            clear hown2 hg2 hw2
            go_roundw
            case rel => exact ⟨A3, n2 + 1, c3, 1, 8, .inr (.inl ⟨rfl, rfl⟩), rfl, rfl, Lib.hid (by have := HN2.out; omega), Lib.hid (by rw [show iv (nb (U ++ (bits5 z).take (0 + 1))) = iv (nb (U ++ (bits5 z).take 0)) ++ [.int .i64 1] from push5 U z 31 0 16 (by rw [HZ.out]; rfl)]; exact HO3.out), HB3⟩
            case measure => simp [intOf]
          · go_wp2_with (at_builtin; refine wpList_app1L _ rfl _ _ 25 rfl w.heap.size 3 i0 _ 8 Tryd.underlying25 HI.out HZ0.out HSZ.out HBY.out rfl _ n2 _ rfl (HO2.out.alloc _) ⟨_, 0, none⟩ 1 (.int .i64 1) rfl (new_cell _ _ _) rfl (by omega) (by unfold maxLen; omega) (by simp; omega) ?_; intro A3 c3 w8 hown2 hg2 hw2)
            have HO3 := Lib.hid hown2
            have HB3 := Lib.hid (app_below HO2.out HB2.out hg2)
            clear hown2 hg2 hw2
            go_roundw
            case rel => exact ⟨A3, n2 + 1, c3, 2, 4, .inr (.inr (.inl ⟨rfl, rfl⟩)), rfl, rfl, Lib.hid (by have := HN2.out; omega), Lib.hid (by rw [show iv (nb (U ++ (bits5 z).take (1 + 1))) = iv (nb (U ++ (bits5 z).take 1)) ++ [.int .i64 1] from push5 U z 31 1 8 (by rw [HZ.out]; rfl)]; exact HO3.out), HB3⟩
            case measure => simp [intOf]
          · go_wp2_with (at_builtin; refine wpList_app1L _ rfl _ _ 25 rfl w.heap.size 3 i0 _ 8 Tryd.underlying25 HI.out HZ0.out HSZ.out HBY.out rfl _ n2 _ rfl (HO2.out.alloc _) ⟨_, 0, none⟩ 1 (.int .i64 1) rfl (new_cell _ _ _) rfl (by omega) (by unfold maxLen; omega) (by simp; omega) ?_; intro A3 c3 w8 hown2 hg2 hw2)
            have HO3 := Lib.hid hown2
            have HB3 := Lib.hid (app_below HO2.out HB2.out hg2)
            clear hown2 hg2 hw2
            go_roundw
            case rel => exact ⟨A3, n2 + 1, c3, 3, 2, .inr (.inr (.inr (.inl ⟨rfl, rfl⟩))), rfl, rfl, Lib.hid (by have := HN2.out; omega), Lib.hid (by rw [show iv (nb (U ++ (bits5 z).take (2 + 1))) = iv (nb (U ++ (bits5 z).take 2)) ++ [.int .i64 1] from push5 U z 31 2 4 (by rw [HZ.out]; rfl)]; exact HO3.out), HB3⟩
            case measure => simp [intOf]
          · go_wp2_with (at_builtin; refine wpList_app1L _ rfl _ _ 25 rfl w.heap.size 3 i0 _ 8 Tryd.underlying25 HI.out HZ0.out HSZ.out HBY.out rfl _ n2 _ rfl (HO2.out.alloc _) ⟨_, 0, none⟩ 1 (.int .i64 1) rfl (new_cell _ _ _) rfl (by omega) (by unfold maxLen; omega) (by simp; omega) ?_; intro A3 c3 w8 hown2 hg2 hw2)
            have HO3 := Lib.hid hown2
            have HB3 := Lib.hid (app_below HO2.out HB2.out hg2)
            clear hown2 hg2 hw2
            go_roundw
            case rel => exact ⟨A3, n2 + 1, c3, 4, 1, .inr (.inr (.inr (.inr (.inl ⟨rfl, rfl⟩)))), rfl, rfl, Lib.hid (by have := HN2.out; omega), Lib.hid (by rw [show iv (nb (U ++ (bits5 z).take (3 + 1))) = iv (nb (U ++ (bits5 z).take 3)) ++ [.int .i64 1] from push5 U z 31 3 2 (by rw [HZ.out]; rfl)]; exact HO3.out), HB3⟩
            case measure => simp [intOf]
          · go_wp2_with (at_builtin; refine wpList_app1L _ rfl _ _ 25 rfl w.heap.size 3 i0 _ 8 Tryd.underlying25 HI.out HZ0.out HSZ.out HBY.out rfl _ n2 _ rfl (HO2.out.alloc _) ⟨_, 0, none⟩ 1 (.int .i64 1) rfl (new_cell _ _ _) rfl (by omega) (by unfold maxLen; omega) (by simp; omega) ?_; intro A3 c3 w8 hown2 hg2 hw2)
            have HO3 := Lib.hid hown2
            have HB3 := Lib.hid (app_below HO2.out HB2.out hg2)
            clear hown2 hg2 hw2
            go_roundw
            case rel => exact ⟨A3, n2 + 1, c3, 5, 0, .inr (.inr (.inr (.inr (.inr ⟨rfl, rfl⟩)))), rfl, rfl, Lib.hid (by have := HN2.out; omega), Lib.hid (by rw [show iv (nb (U ++ (bits5 z).take (4 + 1))) = iv (nb (U ++ (bits5 z).take 4)) ++ [.int .i64 1] from push5 U z 31 4 1 (by rw [HZ.out]; rfl)]; exact HO3.out), HB3⟩
            case measure => simp [intOf]
          · go_wp2_with fail
            go_roundw
            case rel => exact ⟨A2, n2, c2, j + 1, by omega, by go_num, rfl, Lib.hid (by have := HN2.out; have := HN.out; omega), Lib.hid (by have h9 := HO2.out; rw [List.take_of_length_le (l := bits5 z) (by rw [bits5_len]; omega), ← HNX.out] at h9; exact h9), HB2⟩
            case measure => simp [intOf] <;> omega
    · have hj1 : j = n + 1 := by omega
      have HJ := Lib.hid hj1
      have hnn : nn = 5 * n + 5 := by have := HN.out; omega
      have HNN := Lib.hid hnn
      have hnb : nn ≤ 500005 := by omega
      obtain ⟨P, hP⟩ : ∃ P, P = (8 - nn % 8) % 8 := ⟨_, rfl⟩
      have hP8 : P < 8 := by omega
      have HP := Lib.hid hP
      have HO2 : Hid (wr.ownsRow w.heap.size 3 1 (.slice A1 nn c1) nn (iv (nb (raw zs ++ List.replicate 0 0)))) := Lib.hid (by
        have h9 := HO.out
        rw [HJ.out, ← HL.out, bitsUp_all] at h9
        rw [List.replicate_zero, List.append_nil]
        exact h9)
      clear hnn hP HO hj1
      go_wp2_with fail
      go_loopw [3] (fun v wi => ∃ (A2 : Option Addr) (n2 c2 p : Nat), p ≤ P ∧ v = .slice A2 n2 c2 ∧ Hid (n2 = nn + p) ∧ Hid (wi.ownsRow w.heap.size 3 1 (.slice A2 n2 c2) n2 (iv (nb (raw zs ++ List.replicate p 0)))) ∧ Hid (Below w.heap.size w wi)) (fun v _ => nn + 8 - sliceLen v)
      case atStart => exact ⟨A1, nn, c1, 0, Nat.zero_le _, rfl, Lib.hid rfl, HO2, HB⟩
      case round =>
        obtain ⟨A2, n2, c2, p, hp, rfl, HN2, HO3, HB2⟩ := hrel
        have hn2 : n2 ≤ 500013 := by have := HN2.out; omega
        by_cases hlp : p < P
        · have t0 : ((n2 : Int) % 8 != 0) = true := by rw [bne_iff_ne]; have := HN2.out; have := HP.out; omega
          have hz2 := HB2.out.size
          go_wp2_with (at_builtin; refine wpList_app1L _ rfl _ _ 25 rfl w.heap.size 3 i0 _ 8 Tryd.underlying25 HI.out HZ0.out HSZ.out HBY.out rfl _ n2 _ rfl (HO3.out.alloc _) ⟨_, 0, none⟩ 1 (.int .i64 0) rfl (new_cell _ _ _) rfl (by omega) (by unfold maxLen; omega) (by simp; omega) ?_; intro A3 c3 w8 hown2 hg2 hw2)
          have HO4 := Lib.hid hown2
          have HB3 := Lib.hid (app_below HO3.out HB2.out hg2)
          clear hown2 hg2 hw2
          go_roundw
          case rel => exact ⟨A3, n2 + 1, c3, p + 1, by omega, rfl, Lib.hid (by have := HN2.out; omega), Lib.hid (by rw [List.replicate_succ', ← List.append_assoc, nb_append (raw zs ++ List.replicate p 0), iv_append]; exact HO4.out), HB3⟩
          case measure => have := HN2.out; simp [sliceLen]; omega
        · obtain rfl : p = P := by omega
          have t0 : ((n2 : Int) % 8 != 0) = false := by rw [bne_eq_false_iff_eq]; have := HN2.out; have := HP.out; omega
          obtain ⟨u, hu⟩ : ∃ u, u = raw zs ++ List.replicate p 0 := ⟨_, rfl⟩
          obtain ⟨M, hM⟩ : ∃ M, n2 = 8 * M := ⟨n2 / 8, by have := HN2.out; have := HP.out; omega⟩
          have HM := Lib.hid hM
          have hur : u = raw zs ++ pad (raw zs).length := by rw [hu, HP.out]; unfold pad; rw [raw_len, HNN.out, HL.out]
          have HU := Lib.hid hur
          have hub : isBits u := by rw [hur, isBits_append]; exact ⟨isBits_raw zs, isBits_pad _⟩
          have HUB := Lib.hid hub
          rw [← hu] at HO3
          have HUL : Hid (u.length = 8 * M) := Lib.hid (by have h9 := ownI_len HO3.out; rw [nb_length] at h9; omega)
          have HTW : Hid (Two w wr 5 none 0 0 (bc []) A2 n2 (nb u)) := Lib.hid ⟨own_nil _ _ _, HB2.out, RdI.of_iv HO3.out (nb_fit hub), fun _ _ _ e => by cases e⟩
          clear hM hur hub hu HO3 HB2
          obtain ⟨i1, hi, hz0, hsz, hby⟩ := inf_parts Tryd.inf_u8
          have HI1 := Lib.hid hi
          have HZ1 := Lib.hid hz0
          have HSZ1 := Lib.hid hsz
          have HBY1 := Lib.hid hby
          clear hi hz0 hsz hby
          go_wp2_with fail
          clear t0
          go_loopw [7, 8] (fun v i wj => ∃ (A3 : Option Addr) (n3 c3 t : Nat) (L : List UInt8), t ≤ n2 ∧ i = .int .i64 t ∧ v = .slice A3 n3 c3 ∧ Hid (t = 8 * n3) ∧ Hid (unb L = u.take t) ∧ Hid (Two w wj 5 A3 n3 c3 (bc L) A2 n2 (nb u))) (fun _ i _ => n2 - (intOf i).toNat)
          case atStart => exact ⟨none, 0, 0, 0, [], Nat.zero_le _, rfl, rfl, Lib.hid rfl, Lib.hid rfl, HTW⟩
          case round =>
            obtain ⟨A3, n3, c3, t, L, ht, rfl, rfl, HTN, HL3, HTW2⟩ := hrel
            have hn3 : n3 ≤ 500013 := by have := HTN.out; omega
            by_cases hlt3 : t < n2
            · have hbm := byte_more (i := n3) HUL.out HUB.out (by have := HTN.out; have := HM.out; omega) (by rw [← HTN.out]; exact HL3.out)
              rw [← HTN.out] at hbm
              have HBM := Lib.hid hbm
              clear hbm
              have ht8 : t + 8 ≤ n2 := by have := HTN.out; have := HM.out; omega
              go_wp2_with fail
              go_loop [9, 10] (fun v i => ∃ (k x : Nat), k ≤ 8 ∧ x < 256 ∧ i = .int .i64 k ∧ v = .int .i64 x ∧ Hid (x = num2 ((u.drop t).take k))) (fun _ i => 8 - (intOf i).toNat)
              case atStart => exact ⟨0, 0, by omega, by omega, rfl, rfl, Lib.hid rfl⟩
              case round =>
                obtain ⟨k, x, hk, hx, rfl, rfl, HX⟩ := hrel
                by_cases hlk : k < 8
                · obtain ⟨ad, rfl, hab, hcell⟩ := HTW2.out.rd.2.1 (by omega)
                  have hul : t + k < u.length := by have := HUL.out; have := HM.out; omega
                  have hc := hcell (t + k) (by rw [nb_length]; exact hul)
                  rw [nb_getD] at hc
                  obtain ⟨b, hb⟩ : ∃ b, b = u.getD (t + k) 0 := ⟨_, rfl⟩
                  rw [← hb] at hc
                  have hbu : u[t + k]'hul = b := by rw [hb]; simp [List.getD, hul]
                  have hb2 : b < 2 := by rw [← hbu]; exact HUB.out _ (List.getElem_mem hul)
                  have HX2 : Hid (2 * x + b = num2 ((u.drop t).take (k + 1))) := Lib.hid (by
                    rw [List.take_succ_eq_append_getElem (by rw [List.length_drop]; omega), num2_snoc, ← HX.out, List.getElem_drop, hbu])
                  have hx2 : 2 * x + b < 256 := by
                    have h9 := num2_lt (k + 1) ((u.drop t).take (k + 1)) (by rw [List.length_take, List.length_drop]; omega) (fun y hy => HUB.out y (List.mem_of_mem_drop (List.mem_of_mem_take hy)))
                    rw [← HX2.out] at h9
                    have h10 : 2 ^ (k + 1) ≤ 2 ^ 8 := Nat.pow_le_pow_right (by decide) (by omega)
                    omega
                  clear hcell hb hbu
                  go_wp2_with fail
                  go_round
                  case rel => exact ⟨k + 1, 2 * x + b, by omega, hx2, by go_num, by go_num, HX2⟩
                  case measure => simp [intOf]; omega
                · obtain rfl : k = 8 := by omega
                  have HX3 : Hid (unb (L ++ [UInt8.ofNat x]) = u.take (8 * (n3 + 1))) := Lib.hid (by rw [HX.out]; exact HBM.out.2)
                  have hxm : (x : Int) % 256 = x := by omega
                  have HBC : Hid (bc (L ++ [UInt8.ofNat x]) = bc L ++ [.int .u8 x]) := Lib.hid (by
                    rw [bc_append]
                    show bc L ++ [Value.int .u8 ((UInt8.ofNat x).toNat : Int)] = _
                    rw [UInt8.toNat_ofNat', Nat.mod_eq_of_lt (by omega)])
                  have hz3 := HTW2.out.bel.size
                  go_wp2_with (at_builtin; refine wpList_app1L _ rfl _ _ 26 rfl w.heap.size 5 i1 _ 1 Tryd.underlying26 HI1.out HZ1.out HSZ1.out HBY1.out rfl _ n3 _ rfl (HTW2.out.own.alloc _) ⟨_, 0, none⟩ 1 (.int .u8 x) rfl (new_cell _ _ _) rfl (by omega) (by unfold maxLen; omega) (by simp; omega) ?_; intro A4 c4 w8 hown2 hg2 hw2)
                  have HTW3 := Lib.hid (HTW2.out.push hown2 hg2 hw2)
                  clear hown2 hg2 hw2 hxm
                  go_roundw
                  case rel => exact ⟨A4, n3 + 1, c4, t + 8, L ++ [UInt8.ofNat x], by omega, by go_num, rfl, Lib.hid (by have := HTN.out; omega), Lib.hid (by rw [HX3.out, HTN.out, Nat.mul_succ]), Lib.hid (by rw [HBC.out]; exact HTW3.out)⟩
                  case measure => simp [intOf]; omega
            · obtain rfl : t = n2 := by omega
              have HE : Hid (L = packL zs) := Lib.hid (by
                apply unb_inj
                rw [unb_packL, ← HU.out, HL3.out, List.take_of_length_le]
                have := HUL.out; have := HM.out; omega)
              go_wp2_with fail
              go_ret
              exact ⟨A3, n3, c3, rfl, by rw [← HE.out]; exact HTW2.out.own, HTW2.out.bel⟩

end Go.Proofs.YtpfkkmjodhpkoaaDoor
