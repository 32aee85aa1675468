/- Contracts of slices.Equal on ints, alpha.Codes, Cost. -/
import Derived.Test.YteamolaoakhaiaaDoorAlpG
import Derived.Test.YteamolaoakhaiaaDoorLower
import Derived.Deep.QuietTactic
import Derived.BigQuiet
namespace Go.Proofs.YteamolaoakhaiaaDoor
open Go.RowKit

theorem field_len (a b c d : Value) (W : World) : (Instr.field 76 (.agg #[a, b, c, d]) 1).run Tryd.prog W = .ok d W := by kernel_rfl

/-- an array's first m elements as a slice -/
theorem slice3 (W : World) (k m : Nat) (hm : m ≤ 3) : (Instr.sliceAt 74 (.pointer (some ⟨k, 0, none⟩)) none (some (.int .i64 m)) none).run Tryd.prog W = .ok (.slice (some ⟨k, 0, none⟩) m 3) W := by
  obtain ⟨i0, hi, _, hsz, _⟩ := inf_parts Tryd.inf_int
  have e3 : Tryd.prog.arrayLen 74 = 3 := by kernel_rfl
  have ee : Tryd.prog.elem 74 = 3 := by kernel_rfl
  have ht : Tryd.prog.underlying 74 = some (.array (Tryd.prog.arrayLen 74) (Tryd.prog.elem 74)) := by kernel_rfl
  rw [run_sliceAt_array_h W _ _ ht _ _ (by omega) (by rw [e3]; omega), ee, e3]
  simp [sizeOf, typeInfo, hi, hsz, slicedAt, Addr.add]

/-- a value of ints as a row that reads -/
theorem rd_form (w : World) (c : UInt8) (k : Nat) (hk : k = w.heap.size) (t : TypeId) (a b d n : Int) (ha : c3 c 0 = a) (hb : c3 c 1 = b) (hd : c3 c 2 = d) :
    RdI (w.alloc (.cells #[.int .i64 a, .int .i64 b, .int .i64 d, .int .i64 n] t)) (k + 1) (some ⟨k, 0, none⟩) (oneL c).length (oneL c) := by
  subst hk ha hb hd
  refine ⟨rfl, fun _ => ⟨_, rfl, Nat.lt_succ_self _, fun j hj => ?_⟩, oneL_fit c⟩
  rw [Addr.add_lit, Nat.zero_add, (Blk.new w t _).cell]
  have h3 := (oneL_len c).2
  rcases (by omega : j = 0 ∨ j = 1 ∨ j = 2) with rfl | rfl | rfl <;> rfl

set_option maxRecDepth 100000 in
set_option maxHeartbeats 3200000 in
theorem cost_any (w : World) (s : ByteArray) (hs : (s.size : Int) ≤ 100000) :
    Calls Tryd.prog 22 #[.string s] w fun e w' => e = .returned (.int .i64 (costL s.data.toList : Nat)) ∧ Below w.heap.size w w' := by
  obtain ⟨cc, w2, hcv, hb2, hz2, hbuf⟩ := conv_bytes w s
  obtain ⟨g, hg⟩ : ∃ g, g = w.heap.size := ⟨_, rfl⟩
  rw [← hg] at hcv hbuf
  have HB2 := Lib.hid hb2
  have HBUF := Lib.hid hbuf
  have HGL : Hid (g < w2.heap.size) := Lib.hid (by omega)
  clear hb2 hz2 hbuf hg
  go_enter Tryd.func22, Tryd.ntmps22
  go_wp2_with fail
  go_loopw [3, 9] (fun v i wr => ∃ (j q : Nat), j ≤ s.size ∧ i = .int .i64 j ∧ v = .int .i64 q ∧ Hid (q = costL (s.data.toList.take j)) ∧ Hid (Below w2.heap.size w2 wr)) (fun _ i _ => s.size - (intOf i).toNat)
  case atStart => exact ⟨0, 0, Nat.zero_le _, rfl, rfl, Lib.hid rfl, Lib.hid (Below.refl _ _)⟩
  case round =>
    obtain ⟨j, q, hj, rfl, rfl, HQ, HB⟩ := hrel
    by_cases hlt : j < s.size
    · have hl : s.data.toList.length = s.size := by rw [Array.length_toList]; rfl
      have hcell := ((HBUF.out.below HB.out HGL.out).2 j (by omega)).1
      rw [byte_at s j hlt] at hcell
      have HC := Lib.hid (cost_take hlt)
      obtain ⟨x, hx⟩ : ∃ x, x = s[j]'hlt := ⟨_, rfl⟩
      rw [← hx] at hcell HC
      have hq : q ≤ 300000 := by
        have h1 := HQ.out
        have h2 := costL_le (s.data.toList.take j)
        rw [List.length_take] at h2
        omega
      clear hx hl hcv
      by_cases ht : isTx x = true
      · have HC2 : Hid (costL (s.data.toList.take (j + 1)) = costL (s.data.toList.take j) + (oneL x).length) := Lib.hid (by rw [HC.out, if_pos ht])
        have HTX := Lib.hid ht
        clear HC ht
        go_wp2_with fail
        refine (isTextByte_any wr x).mono ?_
        rintro e w3 ⟨rfl, hb3⟩
        rw [HTX.out]
        have HB3 := Lib.hid (HB.out.trans (hb3.mono HB.out.size))
        clear hb3 hcell
        go_wp2_with fail
        refine (formOf_any w3 x).mono ?_
        rintro e w4 ⟨rfl, hb4⟩
        unfold formV
        have HB4 := Lib.hid (HB3.out.trans (hb4.mono HB3.out.size))
        have hm := (oneL_len x).2
        obtain ⟨m, hm2⟩ : ∃ m, m = (oneL x).length := ⟨_, rfl⟩
        rw [← hm2] at hm HC2 ⊢
        clear hb4 hm2
        have hfd := field_len (.int .i64 (c3 x 0)) (.int .i64 (c3 x 1)) (.int .i64 (c3 x 2)) (.int .i64 m)
        go_wp2_with fail
        go_roundw
        case rel => exact ⟨j + 1, q + m, by omega, by go_num, by go_num, Lib.hid (by rw [HC2.out, ← HQ.out]), HB4⟩
        case measure => simp [intOf]; omega
      · rw [Bool.not_eq_true] at ht
        have HC2 : Hid (costL (s.data.toList.take (j + 1)) = costL (s.data.toList.take j)) := Lib.hid (by rw [HC.out, ht]; rfl)
        have HTX := Lib.hid ht
        clear HC ht
        go_wp2_with fail
        refine (isTextByte_any wr x).mono ?_
        rintro e w3 ⟨rfl, hb3⟩
        rw [HTX.out]
        have HB3 := Lib.hid (HB.out.trans (hb3.mono HB.out.size))
        clear hb3 hcell
        go_wp2_with fail
        go_roundw
        case rel => exact ⟨j + 1, q, by omega, by go_num, rfl, Lib.hid (by rw [HC2.out, ← HQ.out]), HB3⟩
        case measure => simp [intOf]; omega
    · have HE : Hid (s.data.toList.take j = s.data.toList) := Lib.hid (List.take_of_length_le (by rw [Array.length_toList]; show s.size ≤ j; omega))
      go_wp2_with fail
      go_ret
      exact ⟨ret_int (by rw [HQ.out, HE.out]), HB2.out.trans (HB.out.mono HB2.out.size)⟩

end Go.Proofs.YteamolaoakhaiaaDoor
