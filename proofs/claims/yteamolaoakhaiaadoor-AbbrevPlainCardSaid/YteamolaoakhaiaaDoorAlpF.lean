/- Contracts of alpha.formOf, isTextByte. -/
import Derived.Test.YteamolaoakhaiaaDoorAlpR2
import Derived.Test.YteamolaoakhaiaaDoorTells
import Derived.Laws.RangeString
import Derived.Laws.RangeAny
import Derived.Laws.CopyOwn
namespace Go.Proofs.YteamolaoakhaiaaDoor
open Go.RowKit

/-- the codes of a byte as three numbers -/
def c3 (c : UInt8) (k : Nat) : Int := (oneL c).getD k 0
/-- the codes of a byte as a value -/
def formV (c : UInt8) : Value := .agg #[.int .i64 (c3 c 0), .int .i64 (c3 c 1), .int .i64 (c3 c 2), .int .i64 (oneL c).length]

theorem formV_of {c : UInt8} {a b d n : Int} {l : List Int} (h : oneL c = l) (h0 : l.getD 0 0 = a) (h1 : l.getD 1 0 = b) (h2 : l.getD 2 0 = d) (hn : (l.length : Int) = n) :
    formV c = .agg #[.int .i64 a, .int .i64 b, .int .i64 d, .int .i64 n] := by
  unfold formV c3
  rw [h, h0, h1, h2, hn]

theorem form_size : (Tryd.prog.info? 76).map (·.size) = some 4 := by kernel_rfl

theorem four_one (a b c d : Int) : (#[Value.int .i64 a, .int .i64 b, .int .i64 c, .int .i64 d]).all (·.oneCell') = true := by simp [Value.oneCell']

/-- a struct of four cells, stored into a row of the call's own and handed back -/
theorem form_done {w W : World} {g : Nat} {cs : Array Value} (hb : Below w.heap.size w W) (hg : Blk W g 76 cs) (hl : w.heap.size ≤ g) (ds : Array Value) :
    (W.setRow g ds).heap[g]? = some (.cells ds 76 (0, 0)) ∧ Below w.heap.size w (W.setRow g ds) :=
  ⟨setRow_heap W g cs ds _ _ hg, below_setRow hb hl ds⟩

/-- the symbols as the program holds them -/
def sgB : ByteArray := ⟨#[48, 49, 50, 51, 52, 53, 54, 55, 56, 57, 46, 44, 33, 63, 39, 34, 45, 58, 59, 40, 41, 47, 38, 42, 43, 61, 37, 35, 36, 10, 60]⟩
theorem sgB_at {j : Nat} (h : j < sgB.size) : sgL[j]?.getD 0 = sgB[j] := byte_at sgB j h
theorem sgB_low : ∀ j < 31, (sgL[j]?.getD 0).toNat < 128 := by decide

set_option maxRecDepth 100000 in
set_option maxHeartbeats 1600000 in
theorem formOf_any (w : World) (c : UInt8) : Calls Tryd.prog 40 #[.int .u8 (c.toNat : Int)] w fun e w' => e = .returned (formV c) ∧ Below w.heap.size w w' := by
  have hc := c.toNat_lt
  by_cases a0 : (c.toNat : Int) = 32
  · have HV := Lib.hid (one_sp a0)
    have t0 : ((c.toNat : Int) == 32) = true := by simpa using a0
    clear a0
    go_enter Tryd.func40, Tryd.ntmps40
    go_wp2_with fail
    (try simp only [Exit.inBlock, Exit.then]); refine bodyPost_ret (results_cell_row rfl _ _ _ _ _ _ _ rfl (heap_alloc_new _ _) Tryd.underlying76 rfl (by kernel_rfl)) rfl ?_
    exact ⟨congrArg Ending.returned (formV_of HV.out rfl rfl rfl rfl).symm, (Below.refl _ _).alloc (Nat.le_refl _) _⟩
  · have t0 : ((c.toNat : Int) == 32) = false := by simpa using a0
    by_cases a1 : isSm c = true
    · have HV := Lib.hid (one_sm a0 a1)
      have b1 : 97 ≤ (c.toNat : Int) ∧ (c.toNat : Int) ≤ 122 := by simp [isSm] at a1; omega
      obtain ⟨b1, b2⟩ := b1
      clear a0 a1
      go_enter Tryd.func40, Tryd.ntmps40
      go_wp2_with fail
      (try simp only [Exit.inBlock, Exit.then]); refine bodyPost_ret (results_cell_row rfl _ _ _ _ _ _ _ rfl (heap_alloc_new _ _) Tryd.underlying76 rfl (by kernel_rfl)) rfl ?_
      exact ⟨congrArg Ending.returned (formV_of HV.out (by simp; omega) rfl rfl rfl).symm, (Below.refl _ _).alloc (Nat.le_refl _) _⟩
    · rw [Bool.not_eq_true] at a1
      have b1 : decide (97 ≤ (c.toNat : Int)) = false ∨ decide (97 ≤ (c.toNat : Int)) = true ∧ decide ((c.toNat : Int) ≤ 122) = false := by simp [isSm] at a1 ⊢; omega
      by_cases a2 : isCp c = true
      · have HV := Lib.hid (one_cp a0 a1 a2)
        have b2 : 65 ≤ (c.toNat : Int) ∧ (c.toNat : Int) ≤ 90 := by simp [isCp] at a2; omega
        obtain ⟨b2, b3⟩ := b2
        clear a0 a1 a2
        rcases b1 with b1 | ⟨b1, b1'⟩
        all_goals
          go_enter Tryd.func40, Tryd.ntmps40
          go_wp2_with fail
          (try simp only [Exit.inBlock, Exit.then]); refine bodyPost_ret (results_cell_row rfl _ _ _ _ _ _ _ rfl (heap_alloc_new _ _) Tryd.underlying76 rfl (by kernel_rfl)) rfl ?_
          exact ⟨congrArg Ending.returned (formV_of HV.out rfl (by simp; omega) rfl rfl).symm, (Below.refl _ _).alloc (Nat.le_refl _) _⟩
      · rw [Bool.not_eq_true] at a2
        have b2 : decide (65 ≤ (c.toNat : Int)) = false ∨ decide (65 ≤ (c.toNat : Int)) = true ∧ decide ((c.toNat : Int) ≤ 90) = false := by simp [isCp] at a2 ⊢; omega
        have HS : Hid (∀ j : Nat, j < 31 → sgL[j]?.getD 0 = c → oneL c = [28, (j : Int)]) := Lib.hid (fun j hj h => by
          have e := signI_at hj h
          rw [one_sg a0 a1 a2 (by omega), e])
        have HN : Hid ((∀ m : Nat, m < 31 → sgL[m]?.getD 0 ≠ c) → oneL c = [29, (c.toNat : Int) / 16, (c.toNat : Int) % 16]) := Lib.hid (fun h => one_by a0 a1 a2 (by rw [signI_no h]; omega))
        clear a0 a1 a2
        have hwr : IntKind.i32.wrap (c.toNat : Int) = (c.toNat : Int) := wraps_i32 _ (by omega) (by omega)
        rcases b1 with b1 | ⟨b1, b1'⟩ <;> rcases b2 with b2 | ⟨b2, b2'⟩
        all_goals
          go_enter Tryd.func40, Tryd.ntmps40
          go_wp2_with fail
          go_loopw [3] (fun _ wr => ∃ j : Nat, j ≤ 31 ∧ wr = (w.alloc (.cells #[.int .i64 0, .int .i64 0, .int .i64 0, .int .i64 0] 76)).iter sgB j ∧ Hid (∀ m, m < j → sgL[m]?.getD 0 ≠ c)) (fun _ wr => 31 - wr.iterPos (w.heap.size + 1))
          case atStart => exact ⟨0, by omega, rfl, Lib.hid (fun m hm => absurd hm (by omega))⟩
          case round =>
            obtain ⟨j, hj, rfl, HM⟩ := hrel
            have hz : (w.alloc (.cells #[.int .i64 0, .int .i64 0, .int .i64 0, .int .i64 0] 76)).heap.size = w.heap.size + 1 := by simp
            have hblk := Blk.new w 76 #[.int .i64 0, .int .i64 0, .int .i64 0, .int .i64 0]
            have hbl : Below w.heap.size w (w.alloc (.cells #[.int .i64 0, .int .i64 0, .int .i64 0, .int .i64 0] 76)) := (Below.refl _ _).alloc (Nat.le_refl _) _
            generalize w.alloc (.cells #[.int .i64 0, .int .i64 0, .int .i64 0, .int .i64 0] 76) = W at *
            by_cases hlt : j < 31
            · have hsz : j < sgB.size := hlt
              have hat := sgB_at hsz
              have hlow := sgB_low j hlt
              rw [hat] at hlow
              have hnx : ∀ ty, (Instr.next (.pointer (some ⟨w.heap.size + 1, 0, none⟩)) true ty).run Tryd.prog (W.iter sgB j) = .ok (.tuple #[.bool true, .int .i64 j, .int .i32 (sgB[j]'hsz).toNat]) (W.iter sgB (j + 1)) := fun ty => by rw [← hz]; exact run_next_ascii W sgB j ty hsz hlow
              obtain ⟨x, hx⟩ : ∃ x, x = sgB[j]'hsz := ⟨_, rfl⟩
              rw [← hx] at hat hnx hlow
              clear hx
              by_cases h : x = c
              · have HF := Lib.hid (HS.out j hlt (hat.trans h))
                subst h
                clear hat
                have hg : Blk (W.iter sgB (j + 1)) w.heap.size _ _ := hblk.alloc _
                have hb : Below w.heap.size w (W.iter sgB (j + 1)) := hbl.alloc (by rw [hz]; omega) _
                go_wp2_with (refine wpList_store_row rfl 76 _ _ rfl w.heap.size #[.int .i64 28, .int .i64 j, .int .i64 0, .int .i64 2] rfl rfl _ _ hg form_size rfl (four_one _ _ _ _) ?_)
                obtain ⟨e1, e2⟩ := form_done hb hg (Nat.le_refl _) #[.int .i64 28, .int .i64 j, .int .i64 0, .int .i64 2]
                (try simp only [Exit.inBlock, Exit.then]); refine bodyPost_ret (results_cell_row rfl _ _ _ _ _ _ _ rfl e1 Tryd.underlying76 rfl (by kernel_rfl)) rfl ?_
                exact ⟨congrArg Ending.returned (formV_of HF.out rfl rfl rfl rfl).symm, e2⟩
              · have t1 : ((x.toNat : Int) == (c.toNat : Int)) = false := by
                  rw [beq_eq_false_iff_ne]
                  intro e
                  exact h (UInt8.toNat_inj.1 (Int.ofNat_inj.1 e))
                have HM2 : Hid (∀ m, m < j + 1 → sgL[m]?.getD 0 ≠ c) := Lib.hid (fun m hm => by
                  by_cases e : m = j
                  · subst e; rw [hat]; exact h
                  · exact HM.out m (by omega))
                clear hat h
                go_wp2_with fail
                go_roundw
                case rel => exact ⟨j + 1, by omega, rfl, HM2⟩
                case measure => rw [← hz]; simp; omega
            · obtain rfl : j = 31 := by omega
              have hnx : ∀ ty, (Instr.next (.pointer (some ⟨w.heap.size + 1, 0, none⟩)) true ty).run Tryd.prog (W.iter sgB 31) = .ok (.tuple #[.bool false]) (W.iter sgB 31) := fun ty => by rw [← hz]; exact run_next_end W sgB 31 ty (by decide)
              have HF := Lib.hid (HN.out HM.out)
              have hg : Blk (W.iter sgB 31) w.heap.size _ _ := hblk.alloc _
              have hb : Below w.heap.size w (W.iter sgB 31) := hbl.alloc (by rw [hz]; omega) _
              go_wp2_with (refine wpList_store_row rfl 76 _ _ rfl w.heap.size #[.int .i64 29, .int .i64 ((c.toNat : Int) / 16), .int .i64 ((c.toNat : Int) % 16), .int .i64 3] rfl rfl _ _ hg form_size rfl (four_one _ _ _ _) ?_)
              (try simp only [Exit.inBlock, Exit.then]); refine bodyPost_ret (results_cell_row rfl _ _ _ _ _ _ _ rfl (setRow_heap _ _ _ _ _ _ hg) Tryd.underlying76 rfl (by kernel_rfl)) rfl ?_
              exact ⟨congrArg Ending.returned (formV_of HF.out rfl rfl rfl rfl).symm, below_setRow hb (Nat.le_refl _) _⟩

end Go.Proofs.YteamolaoakhaiaaDoor
