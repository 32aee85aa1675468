/- Contract of sum.table: the table of the checksum, as a value. -/
import Derived.Test.YtpenilbnhhcmiaaRows
import Derived.Test.YtpenilbnhhcmiaaBlk
import Derived.Test.YtpenilbnhhcmiaaCrcP
import Derived.Deep.WholeRow
import Derived.Laws.BitsAllLaws
namespace Go.Proofs.Ytpenilbnhhcmiaa
open Go.RowKit

/-- the first k entries of the table are laid -/
def tabK (k : Nat) : Array Value := ((List.range 256).map fun i => Value.int .u32 ((if i < k then Crc.steps 8 i else 0 : Nat) : Int)).toArray

theorem tabK_size (k : Nat) : (tabK k).size = 256 := by simp [tabK]
theorem tabK_one (k : Nat) : (tabK k).all (·.oneCell') = true := by
  rw [Array.all_eq_true_iff_forall_mem]
  intro v hv
  simp only [tabK, List.mem_toArray, List.mem_map] at hv
  obtain ⟨_, _, rfl⟩ := hv
  rfl
theorem tabK_at (k i : Nat) (h : i < 256) : (tabK k)[i]? = some (.int .u32 ((if i < k then Crc.steps 8 i else 0 : Nat) : Int)) := by simp [tabK, h]
theorem tabK_next (k : Nat) (h : k < 256) : (tabK k).setIfInBounds k (.int .u32 ((Crc.steps 8 k : Nat) : Int)) = tabK (k + 1) := by
  apply Array.ext_getElem?
  intro i
  by_cases hi : i < 256
  · rw [Array.getElem?_setIfInBounds, tabK_at _ _ hi, tabK_at _ _ hi, tabK_size]
    by_cases e : k = i
    · subst e; rw [if_pos rfl, if_pos h, if_pos (by omega)]
    · rw [if_neg e]
      by_cases h2 : i < k
      · rw [if_pos h2, if_pos (by omega)]
      · rw [if_neg h2, if_neg (by omega)]
  · rw [Array.getElem?_eq_none (by rw [Array.size_setIfInBounds, tabK_size]; omega), Array.getElem?_eq_none (by rw [tabK_size]; omega)]
theorem tabK_zero : tabK 0 = Array.replicate 256 (.int .u32 0) := by
  apply Array.ext_getElem?
  intro i
  by_cases hi : i < 256
  · rw [tabK_at _ _ hi, if_neg (by omega)]; simp [hi]
  · rw [Array.getElem?_eq_none (by rw [tabK_size]; omega), Array.getElem?_eq_none (by simp; omega)]

theorem and_one (r : Nat) (h : r < 4294967296) : bits .and .u32 (r : Int) 1 = ((r % 2 : Nat) : Int) := by
  have e := u32_and_nat r 1 (by omega) (by omega)
  rw [Nat.and_one_is_mod] at e
  exact e

theorem xor_poly (r : Nat) (h : r < 4294967296) : bits .xor .u32 ((r : Int) / 2) 3988292384 = ((r / 2 ^^^ Crc.poly : Nat) : Int) := by
  have e := u32_xor_nat (r / 2) 3988292384 (by omega) (by omega)
  rw [Int.natCast_ediv] at e
  exact e

theorem step_odd {r : Nat} (h : r % 2 = 1) : Crc.step r = r / 2 ^^^ Crc.poly := by unfold Crc.step; rw [if_pos h]
theorem step_even {r : Nat} (h : ¬ r % 2 = 1) : Crc.step r = r / 2 := by unfold Crc.step; rw [if_neg h]
theorem steps_eat {j r t : Nat} (hj : j < 8) (h : Crc.steps (8 - j) r = t) : Crc.steps (8 - (j + 1)) (Crc.step r) = t := by
  rw [← h, show 8 - j = (8 - (j + 1)) + 1 from by omega]; rfl

/-- a row of the call's own written anew -/
theorem below_setRow {B : Nat} {a w : World} (h : Below B a w) {g : Nat} (hg : B ≤ g) (cs : Array Value) : Below B a (w.setRow g cs) :=
  ⟨h.os, h.tape, h.output, by rw [size_setRow]; exact h.size, fun i hi => (setRow_other w g i cs (by omega)).trans (h.block i hi)⟩

/-- the table -/
def tabV : Array Value := tabK 256

theorem Try.infoT : (Try.prog.info? 39).map (fun i => (i.zero, i.size)) = some (some (.agg (Array.replicate 256 (.int .u32 0))), 256) := by kernel_rfl
theorem Try.undT : Try.prog.underlying 39 = some (.array 256 23) := by kernel_rfl

set_option maxRecDepth 100000 in
set_option maxHeartbeats 400000 in
theorem table_any (w : World) :
    Calls Try.prog 18 #[] w fun e w' => e = .returned (.agg tabV) ∧ Below w.heap.size w w' := by
  obtain ⟨hz, hsz⟩ := zero_of_info Try.infoT
  have HSZ := Lib.hid hsz
  clear hsz
  rw [← tabK_zero] at hz
  go_enter Try.func18, Try.ntmps18
  go_wp2_with fail
  go_loopw [5] (fun i wr => ∃ k : Nat, k ≤ 256 ∧ i = .int .u32 k ∧ wr = (w.alloc (.cells (tabK 0) 39)).alloc (.cells (tabK k) 39)) (fun i _ => 256 - (intOf i).toNat)
  case atStart => exact ⟨0, by omega, rfl, rfl⟩
  case round =>
    obtain ⟨k, hk, rfl, rfl⟩ := hrel
    by_cases hlt : k < 256
    · go_wp2_with fail
      go_loop [3, 9] (fun v i => ∃ (j r : Nat), j ≤ 8 ∧ i = .int .i64 j ∧ v = .int .u32 r ∧ r < 4294967296 ∧ Hid (Crc.steps (8 - j) r = Crc.steps 8 k)) (fun _ i => 8 - (intOf i).toNat)
      case atStart => exact ⟨0, k, by omega, rfl, rfl, by omega, rfl⟩
      case round =>
        obtain ⟨j, r, hj, rfl, rfl, hr, HR⟩ := hrel
        by_cases hlt2 : j < 8
        · have hs := Crc.step_lt hr
          have hand := and_one r hr
          by_cases hodd : r % 2 = 1
          · rw [hodd] at hand
            have hxor := xor_poly r hr
            rw [← step_odd hodd] at hxor
            have HO := Lib.hid hodd
            clear hodd
            obtain ⟨q, hq⟩ : ∃ q, q = Crc.step r := ⟨_, rfl⟩
            rw [← hq] at hxor hs
            have HQ := Lib.hid hq
            clear hq
            go_wp2_with fail
            go_round
            case rel => exact ⟨j + 1, q, by omega, by go_num, rfl, hs, by rw [HQ.out]; exact steps_eat hlt2 HR.out⟩
            case measure => simp [intOf]; omega
          · have h0 : r % 2 = 0 := by omega
            rw [h0] at hand
            have HQ := Lib.hid (step_even hodd)
            clear hodd h0 hs
            go_wp2_with fail
            go_round
            case rel => exact ⟨j + 1, r / 2, by omega, by go_num, by go_num, by omega, by rw [← HQ.out]; exact steps_eat hlt2 HR.out⟩
            case measure => simp [intOf]; omega
        · have HR2 : Hid (r = Crc.steps 8 k) := by
            have h9 := HR.out
            rw [show 8 - j = 0 from by omega] at h9
            exact h9
          clear HR
          have B1 : Hid (Blk ((w.alloc (.cells (tabK 0) 39)).alloc (.cells (tabK k) 39)) (w.heap.size + 1) 39 (tabK k)) := Lib.hid (Blk.new_at _ _ _ _ (by simp))
          have hc := (tabK_at k k hlt)
          rw [if_neg (by omega)] at hc
          go_wp2_with fail
          go_roundw
          case rel =>
            refine ⟨k + 1, by omega, by go_num, ?_⟩
            rw [← tabK_next k hlt, ← HR2.out]
          case measure => simp [intOf]; omega
    · obtain rfl : k = 256 := by omega
      have hbel : Below w.heap.size w (((w.alloc (.cells (tabK 0) 39)).alloc (.cells (tabK 256) 39)).setRow w.heap.size (tabK 256)) :=
        below_setRow (((Below.refl _ _).alloc (Nat.le_refl _) _).alloc (by simp) _) (Nat.le_refl _) _
      have hnew := setRow_heap ((w.alloc (.cells (tabK 0) 39)).alloc (.cells (tabK 256) 39)) w.heap.size (tabK 0) (tabK 256) 39 (0, 0) ((Blk.new w 39 (tabK 0)).alloc _)
      have HB := Lib.hid hbel
      have HN := Lib.hid hnew
      clear hbel hnew
      go_wp2_with (first
        | (refine wpList_load_row rfl 39 (.tmp 1) rfl (w.heap.size + 1) rfl 39 (tabK 256) (0, 0) _ (Blk.new_at _ _ _ _ (by simp)) Try.undT rfl (by rw [tabK_size]; exact HSZ.out) ?_)
        | (refine wpList_store_row rfl 39 (.tmp 0) (.tmp 24) rfl w.heap.size (tabK 256) rfl rfl 39 (tabK 0) ((Blk.new w _ _).alloc _) (by rw [tabK_size]; exact HSZ.out) (by rw [tabK_size, tabK_size]) (tabK_one _) ?_))
      exact bodyPost_ret (v := .agg (tabK 256)) (results_cell_row rfl _ _ w.heap.size 39 (tabK 256) (0, 0) _ rfl HN.out Try.undT rfl (by rw [tabK_size]; exact HSZ.out)) rfl ⟨rfl, HB.out⟩

end Go.Proofs.Ytpenilbnhhcmiaa
