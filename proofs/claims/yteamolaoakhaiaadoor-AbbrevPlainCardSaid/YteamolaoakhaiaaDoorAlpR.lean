/- Contracts of layer 6's reference: sign, one, Codes, Cost. -/
import Derived.Test.YteamolaoakhaiaaDoorAlpP
import Derived.Test.YteamolaoakhaiaaDoorIntS
import Derived.Test.YteamolaoakhaiaaDoorTellsR
import Derived.Test.YteamolaoakhaiaaDoorInfo
import Derived.Test.YteamolaoakhaiaaDoorBitP
namespace Go.Proofs.YteamolaoakhaiaaDoor
open Go.RowKit

/-- a symbol's place, or -1 -/
def signI (c : UInt8) : Int := if sgL.idxOf c < 31 then (sgL.idxOf c : Int) else -1

theorem sgL_nodup : ∀ a < 31, ∀ b < 31, sgL[a]?.getD 0 = sgL[b]?.getD 0 → a = b := by decide

theorem signI_at {c : UInt8} {j : Nat} (hj : j < 31) (h : sgL[j]?.getD 0 = c) : signI c = j := by
  have hm : c ∈ sgL := by
    rw [List.getElem?_eq_getElem (show j < sgL.length from hj)] at h
    exact h ▸ List.getElem_mem (show j < sgL.length from hj)
  have h1 := List.idxOf_lt_length_of_mem hm
  have h2 : sgL[sgL.idxOf c] = c := List.getElem_idxOf h1
  have e : sgL.idxOf c = j := sgL_nodup _ h1 _ hj (by rw [h, List.getElem?_eq_getElem h1, h2]; rfl)
  unfold signI
  rw [e, if_pos hj]

theorem signI_no {c : UInt8} (hall : ∀ m, m < 31 → sgL[m]?.getD 0 ≠ c) : signI c = -1 := by
  unfold signI
  rw [if_neg]
  intro h
  have h1 : sgL.idxOf c < sgL.length := h
  have h2 : sgL[sgL.idxOf c] = c := List.getElem_idxOf h1
  exact hall _ h (by rw [List.getElem?_eq_getElem h1, h2]; rfl)

theorem signI_le (c : UInt8) : -1 ≤ signI c ∧ signI c ≤ 30 := by
  unfold signI
  split <;> omega

set_option maxRecDepth 100000 in
set_option maxHeartbeats 800000 in
theorem rsign_any (w : World) (c : UInt8) : Calls Tryd.prog 50 #[.int .u8 (c.toNat : Int)] w fun e w' => e = .returned (.int .i64 (signI c)) ∧ w = w' := by
  go_enter Tryd.func50, Tryd.ntmps50
  go_wp2_with fail
  go_loop [3] (fun i => ∃ j : Nat, j ≤ 31 ∧ i = .int .i64 j ∧ Hid (∀ m, m < j → sgL[m]?.getD 0 ≠ c)) (fun i => 31 - (intOf i).toNat)
  case atStart => exact ⟨0, Nat.zero_le _, rfl, Lib.hid (fun m hm => absurd hm (by omega))⟩
  case round =>
    obtain ⟨j, hj, rfl, hall⟩ := hrel
    by_cases hlt : j < 31
    · have hsz : (⟨#[48, 49, 50, 51, 52, 53, 54, 55, 56, 57, 46, 44, 33, 63, 39, 34, 45, 58, 59, 40, 41, 47, 38, 42, 43, 61, 37, 35, 36, 10, 60]⟩ : ByteArray).size = 31 := rfl
      have hat := byte_at (⟨#[48, 49, 50, 51, 52, 53, 54, 55, 56, 57, 46, 44, 33, 63, 39, 34, 45, 58, 59, 40, 41, 47, 38, 42, 43, 61, 37, 35, 36, 10, 60]⟩ : ByteArray) j (by rw [hsz]; exact hlt)
      by_cases h : sgL[j]?.getD 0 = c
      · have hb : ((((⟨#[48, 49, 50, 51, 52, 53, 54, 55, 56, 57, 46, 44, 33, 63, 39, 34, 45, 58, 59, 40, 41, 47, 38, 42, 43, 61, 37, 35, 36, 10, 60]⟩ : ByteArray)[j]'(by rw [hsz]; exact hlt)).toNat : Int) == (c.toNat : Int)) = true := by
          rw [beq_iff_eq, ← hat]
          exact congrArg (fun x : UInt8 => (x.toNat : Int)) h
        have HS := Lib.hid (signI_at hlt h)
        clear hat h
        go_wp2_with fail
        go_ret
        exact ⟨ret_int HS.out.symm, rfl⟩
      · have hb : ((((⟨#[48, 49, 50, 51, 52, 53, 54, 55, 56, 57, 46, 44, 33, 63, 39, 34, 45, 58, 59, 40, 41, 47, 38, 42, 43, 61, 37, 35, 36, 10, 60]⟩ : ByteArray)[j]'(by rw [hsz]; exact hlt)).toNat : Int) == (c.toNat : Int)) = false := by
          rw [beq_eq_false_iff_ne, ← hat]
          intro e
          exact h (UInt8.toNat_inj.1 (Int.ofNat_inj.1 e))
        have HM : Hid (∀ m, m < j + 1 → sgL[m]?.getD 0 ≠ c) := Lib.hid (fun m hm => by
          by_cases e : m = j
          · subst e; exact h
          · exact hall.out m (by omega))
        clear hat h hall
        go_wp2_with fail
        go_round
        case rel => exact ⟨j + 1, by omega, by go_num, HM⟩
        case measure => simp [intOf]; omega
    · obtain rfl : j = 31 := by omega
      have HS := Lib.hid (signI_no hall.out)
      go_wp2_with fail
      go_ret
      exact ⟨ret_int HS.out.symm, rfl⟩

/-- the codes of a byte, by what it is -/
theorem one_sp {c : UInt8} (h : (c.toNat : Int) = 32) : oneL c = [0] := by
  unfold oneL; rw [if_pos (by omega)]
theorem one_sm {c : UInt8} (h0 : ¬ (c.toNat : Int) = 32) (h : isSm c = true) : oneL c = [(c.toNat : Int) - 97 + 1] := by
  unfold oneL; rw [if_neg (by omega), if_pos h]
  exact congrArg (fun x => [x]) (by omega)
theorem one_cp {c : UInt8} (h0 : ¬ (c.toNat : Int) = 32) (h1 : isSm c = false) (h : isCp c = true) : oneL c = [27, (c.toNat : Int) - 65 + 1] := by
  unfold oneL; rw [if_neg (by omega), if_neg (by rw [h1]; decide), if_pos h]
  exact congrArg (fun x => [27, x]) (by omega)
theorem one_sg {c : UInt8} (h0 : ¬ (c.toNat : Int) = 32) (h1 : isSm c = false) (h2 : isCp c = false) (h : 0 ≤ signI c) : oneL c = [28, signI c] := by
  unfold oneL; rw [if_neg (by omega), if_neg (by rw [h1]; decide), if_neg (by rw [h2]; decide)]
  unfold signI at *
  split at h
  · rename_i h3; rw [if_pos h3, if_pos h3]
  · omega
theorem one_by {c : UInt8} (h0 : ¬ (c.toNat : Int) = 32) (h1 : isSm c = false) (h2 : isCp c = false) (h : signI c < 0) : oneL c = [29, (c.toNat : Int) / 16, (c.toNat : Int) % 16] := by
  unfold oneL; rw [if_neg (by omega), if_neg (by rw [h1]; decide), if_neg (by rw [h2]; decide)]
  unfold signI at *
  split at h
  · omega
  · rename_i h3; rw [if_neg h3]

theorem oneL_fit (c : UInt8) : FitI (oneL c) := FitI.of_mem fun z hz => by have := oneL_range c z hz; omega
theorem codes_fit (l : List UInt8) : FitI (codes l) := FitI.of_mem fun z hz => by have := codes_range l z hz; omega

/-- a new block of codes, handed back -/
theorem OutI.lit (w : World) (t : TypeId) (zs : List Int) (cs : Array Value) (n : Nat) (hn : n = zs.length) (hm : n ≤ maxLen) (hcs : cs = (iv zs).toArray) :
    OutI w.heap.size t w zs (.returned (.slice (some ⟨w.heap.size, 0, none⟩) n n)) (w.alloc (.cells cs t)) := by
  subst hcs hn
  refine ⟨_, _, _, rfl, ?_, (Below.refl _ _).alloc (Nat.le_refl _) _⟩
  have h := World.ownsRow_lit (base := w.heap.size) (e := t) (size := 1) w (iv zs).toArray zs.length (Nat.le_refl _) hm (by simp [iv])
  simpa using h

set_option maxRecDepth 100000 in
set_option maxHeartbeats 1600000 in
theorem rone_any (w : World) (c : UInt8) : Calls Tryd.prog 38 #[.int .u8 (c.toNat : Int)] w (OutI w.heap.size 3 w (oneL c)) := by
  have hc := c.toNat_lt
  by_cases a0 : (c.toNat : Int) = 32
  · rw [one_sp a0]
    have t0 : ((c.toNat : Int) == 32) = true := by simpa using a0
    clear a0
    go_enter Tryd.func38, Tryd.ntmps38
    go_wp2_with fail
    go_ret
    exact OutI.lit w _ [0] _ _ rfl (by unfold maxLen; decide) rfl
  · have t0 : ((c.toNat : Int) == 32) = false := by simpa using a0
    by_cases a1 : isSm c = true
    · rw [one_sm a0 a1]
      have b1 : 97 ≤ (c.toNat : Int) ∧ (c.toNat : Int) ≤ 122 := by simp [isSm] at a1; omega
      obtain ⟨b1, b2⟩ := b1
      clear a0 a1
      go_enter Tryd.func38, Tryd.ntmps38
      go_wp2_with fail
      go_ret
      exact OutI.lit w _ [_] _ _ rfl (by unfold maxLen; simp) rfl
    · rw [Bool.not_eq_true] at a1
      by_cases a2 : isCp c = true
      · rw [one_cp a0 a1 a2]
        have b1 : 65 ≤ (c.toNat : Int) ∧ (c.toNat : Int) ≤ 90 := by simp [isCp] at a2; omega
        obtain ⟨b1, b2⟩ := b1
        clear a0 a1 a2
        go_enter Tryd.func38, Tryd.ntmps38
        go_wp2_with fail
        go_ret
        exact OutI.lit w _ [27, _] _ _ rfl (by unfold maxLen; simp) rfl
      · rw [Bool.not_eq_true] at a2
        have b1 : decide (97 ≤ (c.toNat : Int)) = false ∨ decide (97 ≤ (c.toNat : Int)) = true ∧ decide ((c.toNat : Int) ≤ 122) = false := by simp [isSm] at a1 ⊢; omega
        have b2 : decide (65 ≤ (c.toNat : Int)) = false ∨ decide (65 ≤ (c.toNat : Int)) = true ∧ decide ((c.toNat : Int) ≤ 90) = false := by simp [isCp] at a2 ⊢; omega
        have hs := signI_le c
        obtain ⟨z, hz⟩ : ∃ z, z = signI c := ⟨_, rfl⟩
        by_cases a3 : 0 ≤ signI c
        · rw [one_sg a0 a1 a2 a3]
          rw [← hz] at hs a3 ⊢
          have HZ := Lib.hid hz
          obtain ⟨s1, s2⟩ := hs
          clear a0 a1 a2 hz
          rcases b1 with b1 | ⟨b1, b1'⟩ <;> rcases b2 with b2 | ⟨b2, b2'⟩
          all_goals
            go_enter Tryd.func38, Tryd.ntmps38
            go_wp2_with fail
            refine (rsign_any w c).mono ?_
            rintro e w1 ⟨rfl, rfl⟩
            rw [← HZ.out]
            go_wp2_with fail
            refine (rsign_any w c).mono ?_
            rintro e w1 ⟨rfl, rfl⟩
            rw [← HZ.out]
            go_wp2_with fail
            go_ret
            exact OutI.lit w _ [28, _] _ _ rfl (by unfold maxLen; simp) rfl
        · have a3' : signI c < 0 := by omega
          rw [one_by a0 a1 a2 a3']
          rw [← hz] at hs a3'
          have HZ := Lib.hid hz
          clear a0 a1 a2 hz a3 hs
          rcases b1 with b1 | ⟨b1, b1'⟩ <;> rcases b2 with b2 | ⟨b2, b2'⟩
          all_goals
            go_enter Tryd.func38, Tryd.ntmps38
            go_wp2_with fail
            refine (rsign_any w c).mono ?_
            rintro e w1 ⟨rfl, rfl⟩
            rw [← HZ.out]
            go_wp2_with fail
            go_ret
            exact OutI.lit w _ [29, _, _] _ _ rfl (by unfold maxLen; simp) rfl

end Go.Proofs.YteamolaoakhaiaaDoor
