/- Contracts of layer 7's small functions: a copy of a string, what a string begins with, the abbreviations that count. -/
import Derived.Test.YtpfkkmjodhpkoaaDoorAbbR
import Derived.Test.YtpfkkmjodhpkoaaDoorInfo
import Derived.Lib.BufferWrite
import Derived.Lib.UnsafeStr
import Derived.Laws.MakeOwn
namespace Go.Proofs.YtpfkkmjodhpkoaaDoor
open Go.RowKit
set_option linter.unusedVariables false

theorem Tryd.cells_u8 : Tryd.prog.cellsOf 5 = 1 := by kernel_rfl

set_option maxRecDepth 100000 in
set_option maxHeartbeats 3200000 in
theorem clone1_any (w : World) (s : ByteArray) (hs : (s.size : Int) ≤ 100000) :
    Calls Tryd.prog 66 #[.string s] w fun e w' => e = .returned (.string s) ∧ Below w.heap.size w w' := by
  by_cases h0 : s.size = 0
  · obtain rfl : s = ⟨#[]⟩ := ByteArray.ext (Array.eq_empty_of_size_eq_zero h0)
    go_enter Tryd.func66, Tryd.ntmps66
    go_wp2_with fail
    go_ret
    exact ⟨rfl, Below.refl _ _⟩
  · obtain ⟨i0, hi, hz0, hsz, hby⟩ := inf_parts Tryd.inf_u8
    obtain ⟨M, hM⟩ : ∃ M, M = madeCells (Value.int .u8 0).cells (((s.size : Nat) : Int).toNat * i0.size) := ⟨_, rfl⟩
    have hMs : M.size = s.size := by rw [hM, size_madeCells, hsz]; simp
    have hmk : ∀ W : World, (Instr.makeSlice 26 (.int .i64 (s.size : Int)) (.int .i64 (s.size : Int))).run Tryd.prog W = .ok (.slice (some ⟨W.heap.size, 0, none⟩) s.size s.size) (W.alloc (.cells M 5)) := fun W => by
      have h := run_make (P := Tryd.prog) W 26 5 i0 _ Tryd.underlying26 hi hz0 .i64 .i64 (s.size : Int) (s.size : Int) (by omega) (Int.le_refl _) (by rw [hby]; omega) (by omega)
      rw [← hM] at h
      simpa using h
    clear hM
    obtain ⟨X, hX⟩ : ∃ X, X = w.alloc (.cells M 5) := ⟨_, rfl⟩
    have hXh : X.heap[w.heap.size]? = some (.cells M 5 (0, 0)) := by rw [hX]; exact heap_alloc_new w _
    have hcp := Lib.run_copy_row_string (P := Tryd.prog) X 26 9 3 5 w.heap.size 0 s.size s.size s M 5 Tryd.underlying26 (by rw [hi]; simp [hsz]) hXh (Nat.le_refl _) (by omega)
    obtain ⟨Y, hY⟩ : ∃ Y, Y = (M.toList.take 0 ++ Lib.byteCells s.data.toList ++ M.toList.drop (0 + s.size)).toArray := ⟨_, rfl⟩
    rw [← hY] at hcp
    have hYl : Y.toList = Lib.byteCells s.data.toList := by
      rw [hY, List.toList_toArray, List.take_zero, List.nil_append, List.drop_of_length_le (by rw [Array.length_toList]; omega), List.append_nil]
    have hYs : Y.size = s.size := by rw [← Array.length_toList, hYl, Lib.byteCells_length, ← Lib.size_eq]
    obtain ⟨Z, hZ⟩ : ∃ Z, Z = X.setRow w.heap.size Y := ⟨_, rfl⟩
    have hZh : Z.heap[w.heap.size]? = some (.cells Y 5 (0, 0)) := by rw [hZ]; exact setRow_heap _ _ M _ 5 (0, 0) hXh
    have hne : s.data.toList ≠ [] := fun e => h0 (by rw [Lib.size_eq, e]; rfl)
    have hus := Lib.run_unsafeString_row (P := Tryd.prog) Z 108 3 9 5 Tryd.underlying108 Tryd.cells_u8 w.heap.size Y.size (by unfold World.shape?; rw [hZh]) s.data.toList hne (by rw [← Lib.size_eq]; omega) (by rw [← Lib.size_eq]; omega)
      (fun j x hx => Lib.cells_of_row hZh Y.size j _ (by rw [List.take_of_length_le (by rw [Array.length_toList]; exact Nat.le_refl _), hYl]; simp [Lib.byteCells, hx]))
    rw [← Lib.size_eq] at hus
    have hb : Below w.heap.size w Z := by
      have hb1 : Below w.heap.size w X := by rw [hX]; exact (Below.refl _ w).alloc (Nat.le_refl _) _
      rw [hZ]
      exact hb1.trans ⟨rfl, rfl, rfl, by simp, fun k hk => setRow_other _ _ _ _ (by omega)⟩
    have HB := Lib.hid hb
    have hmk0 := hmk w
    rw [← hX] at hmk0
    rw [← hZ] at hcp
    clear hmk hX hZ hY hXh hZh hb hYl
    go_enter Tryd.func66, Tryd.ntmps66
    go_wp2_with fail
    go_ret
    exact ⟨rfl, Lib.below_freeze HB.out (p := ⟨w.heap.size, 0, none⟩) (Nat.le_refl _) _⟩

set_option maxRecDepth 100000 in
theorem clone_any (w : World) (s : ByteArray) (hs : (s.size : Int) ≤ 100000) :
    Calls Tryd.prog 42 #[.string s] w fun e w' => e = .returned (.string s) ∧ Below w.heap.size w w' := by
  go_enter Tryd.func42, Tryd.ntmps42
  go_wp2_with fail
  refine (clone1_any w s hs).mono ?_
  rintro e w1 ⟨rfl, hb⟩
  have HB := Lib.hid hb
  clear hb
  go_wp2_with fail
  go_ret
  exact ⟨rfl, HB.out⟩

set_option maxRecDepth 100000 in
set_option maxHeartbeats 3200000 in
theorem prefix1_any (w : World) (s p : ByteArray) (hs : (s.size : Int) ≤ 100000) (hp : (p.size : Int) ≤ 100000) :
    Calls Tryd.prog 76 #[.string s, .string p] w fun e w' => e = .returned (.bool (isPre p.data.toList s.data.toList)) ∧ w = w' := by
  have hc := cmp_at s p 0
  rw [Nat.zero_add, List.drop_zero] at hc
  by_cases hle : p.size ≤ s.size
  · have h1 : (p.size : Int) ≤ (s.size : Int) := by omega
    obtain ⟨q, hq⟩ : ∃ q, q = isPre p.data.toList s.data.toList := ⟨_, rfl⟩
    rw [← hq] at hc
    have HQ := Lib.hid hq
    clear hq hle
    go_enter Tryd.func76, Tryd.ntmps76
    go_wp2_with fail
    go_ret
    exact ⟨by rw [← HQ.out]; rfl, rfl⟩
  · have h1 : ¬ (p.size : Int) ≤ (s.size : Int) := by omega
    have HQ : Hid (isPre p.data.toList s.data.toList = false) := Lib.hid (by
      rw [Bool.eq_false_iff]
      intro e
      have := isPre_len e
      rw [Array.length_toList, Array.length_toList] at this
      exact hle this)
    clear hc hle
    go_enter Tryd.func76, Tryd.ntmps76
    go_wp2_with fail
    go_ret
    exact ⟨by rw [HQ.out]; rfl, rfl⟩

set_option maxRecDepth 100000 in
theorem prefix_any (w : World) (s p : ByteArray) (hs : (s.size : Int) ≤ 100000) (hp : (p.size : Int) ≤ 100000) :
    Calls Tryd.prog 63 #[.string s, .string p] w fun e w' => e = .returned (.bool (isPre p.data.toList s.data.toList)) ∧ w = w' := by
  go_enter Tryd.func63, Tryd.ntmps63
  go_wp2_with fail
  refine (prefix1_any w s p hs hp).mono ?_
  rintro e w1 ⟨rfl, rfl⟩
  go_wp2_with fail
  go_ret
  exact ⟨rfl, rfl⟩

set_option maxRecDepth 100000 in
theorem known_any (w : World) (A : Option Addr) (n c : Nat) (hc : n ≤ c) (hn : (n : Int) ≤ 10000) :
    Calls Tryd.prog 35 #[.slice A n c] w fun e w' => e = .returned (.slice A (min n 32) c) ∧ w = w' := by
  by_cases h : n ≤ 32
  · have h1 : (n : Int) ≤ 32 := by omega
    have h2 : (n : Int) ≤ (c : Int) := by omega
    rw [Nat.min_eq_left h]
    go_enter Tryd.func35, Tryd.ntmps35
    go_wp2_with fail
    go_ret
    exact ⟨rfl, rfl⟩
  · have h1 : ¬ (n : Int) ≤ 32 := by omega
    have h2 : 32 ≤ (c : Int) := by omega
    have h3 : (32 : Int) ≤ (n : Int) := by omega
    rw [Nat.min_eq_right (by omega)]
    go_enter Tryd.func35, Tryd.ntmps35
    go_wp2_with fail
    go_ret
    exact ⟨rfl, rfl⟩

end Go.Proofs.YtpfkkmjodhpkoaaDoor
