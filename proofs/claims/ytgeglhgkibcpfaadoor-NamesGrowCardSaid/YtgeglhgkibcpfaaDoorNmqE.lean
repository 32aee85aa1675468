/- The table of predefined flags; contract of predefined. -/
import Derived.Test.YtgeglhgkibcpfaaDoorNmqC
import Derived.OpenShut
import Derived.Laws.World
namespace Go.Proofs.YtgeglhgkibcpfaaDoor
open Go.RowKit
set_option linter.unusedVariables false

/-- the flags that every story has, by their numbers -/
def preL : List Nm := [⟨[108, 105, 116], 1, 0⟩, ⟨[111, 112, 101, 110], 1, 1⟩, ⟨[98, 111, 120], 1, 2⟩, ⟨[104, 105, 100, 100, 101, 110], 1, 3⟩]

def flC : Array Value := #[.string (bs [108, 105, 116]), .string (bs [111, 112, 101, 110]), .string (bs [98, 111, 120]), .string (bs [104, 105, 100, 100, 101, 110])]

/-- the table holds them -/
def Fl (w : World) : Prop := World.var? Tryd.prog w "clew/names.predefinedFlags" = some flC

theorem fl_at : Tryd.prog.globalNamed "clew/names.predefinedFlags" = some 0 := by kernel_rfl

theorem Fl.blk {w : World} (h : Fl w) : ∃ t fr, w.heap[0]? = some (.cells flC t fr) := by
  unfold Fl World.var? at h
  rw [fl_at] at h
  simp only [Option.bind_some] at h
  cases hh : w.heap[0]? with
  | none => rw [hh] at h; cases h
  | some o =>
    rw [hh] at h
    cases o <;> simp at h
    subst h
    exact ⟨_, _, rfl⟩
theorem Fl.cell {w : World} (h : Fl w) (i : Nat) : w.cell? ⟨0, i, none⟩ = flC[i]? := by
  obtain ⟨t, fr, hb⟩ := h.blk
  exact cell_of_row _ _ _ _ _ _ hb
theorem Fl.lt {w : World} (h : Fl w) : 0 < w.heap.size := by
  obtain ⟨t, fr, hb⟩ := h.blk
  exact (Array.getElem?_eq_some_iff.1 hb).1
theorem Fl.heap {w w' : World} (h : Fl w) (he : w'.heap[0]? = w.heap[0]?) : Fl w' := by
  unfold Fl World.var? at h ⊢
  rw [fl_at] at h ⊢
  simp only [Option.bind_some] at h ⊢
  rw [he]
  exact h
theorem Fl.below {w w' : World} {B : Nat} (h : Fl w) (hb : Below B w w') (hB : w.heap.size ≤ B) : Fl w' := h.heap (hb.block _ (Nat.lt_of_lt_of_le h.lt hB))

/-- what the first j of them come to -/
def preF (j : Nat) : List UInt8 → Option Nm := (preL.take j).foldl (fun F x => putM F x.name x) fun _ => none

theorem preF_all (s : List UInt8) : preF 4 s = findI nms0 s := by
  show putM (putM (putM (putM (fun _ => none) _ _) _ _) _ _) _ _ s = _
  unfold putM nms0
  simp only [findI]
  by_cases h1 : s = [108, 105, 116]
  · subst h1; decide
  · by_cases h2 : s = [111, 112, 101, 110]
    · subst h2; decide
    · by_cases h3 : s = [98, 111, 120]
      · subst h3; decide
      · by_cases h4 : s = [104, 105, 100, 100, 101, 110]
        · subst h4; decide
        · simp [h1, h2, h3, h4, Ne.symm h1, Ne.symm h2, Ne.symm h3, Ne.symm h4]

theorem flg_index (i : Nat) (h : i < 4) (w : World) : (Instr.index 95 (.agg flC) (.int .i64 (i : Int))).run Tryd.prog w = .ok (.string (bs (preL[i]?.getD noNm).name)) w := by
  have hu : Tryd.prog.underlying 95 = some (.array 4 9) := by kernel_rfl
  have hsz : (sizeOf 9).run Tryd.prog w = .ok 1 w := by kernel_rfl
  have hpart : (part 9 flC (i * 1)).run Tryd.prog w = .ok (.string (bs (preL[i]?.getD noNm).name)) w := by
    unfold part
    have ha : (isAgg 9).run Tryd.prog w = .ok false w := Tryd.isAgg9 w
    match i, h with
    | 0, _ => simp [Sem.run_bind, ha, flC, preL]
    | 1, _ => simp [Sem.run_bind, ha, flC, preL]
    | 2, _ => simp [Sem.run_bind, ha, flC, preL]
    | 3, _ => simp [Sem.run_bind, ha, flC, preL]
  have hi : (0 : Int) ≤ (i : Int) ∧ (i : Int) < ((4 : Nat) : Int) := by omega
  unfold Instr.index
  simp only [Sem.run_bind, asIntOf, Sem.run_pure, Result.andThen_ok, run_underlying hu w]
  rw [if_pos hi]
  simp [Sem.run_bind, hsz] at hpart ⊢
  simp [hpart]

set_option maxRecDepth 100000 in
set_option maxHeartbeats 3200000 in
theorem npre_any (w : World) (h : Fl w) : Calls Tryd.prog 24 #[] w fun e w' => e = .returned (.map (some w.heap.size)) ∧ NM w' w.heap.size 4 (findI nms0) ∧ Below w.heap.size w w' := by
  have H := Lib.hid h
  clear h
  have hmm := @run_makeMap Tryd.prog
  obtain ⟨W, hW⟩ : ∃ W, W = w.alloc (.map #[] 0) := ⟨_, rfl⟩
  have HB : Hid (Below w.heap.size w W) := Lib.hid (by rw [hW]; exact (Below.refl _ _).alloc (Nat.le_refl _) _)
  have HN : Hid (NM W w.heap.size 0 (preF 0)) := Lib.hid (by rw [hW]; exact NM.made w)
  have HFW := Lib.hid (H.out.below HB.out (Nat.le_refl _))
  have c0 := Fl.cell HFW.out 0
  have c1 := Fl.cell HFW.out 1
  have c2 := Fl.cell HFW.out 2
  have c3 := Fl.cell HFW.out 3
  simp [flC] at c0 c1 c2 c3
  rw [hW] at c0 c1 c2 c3
  go_enter Tryd.func24, Tryd.ntmps24
  go_wp2_with fail
  rw [← hW]
  go_loopw [6] (fun vi wr => ∃ j : Nat, j ≤ 4 ∧ vi = .int .i64 j ∧ Hid (Below w.heap.size w wr) ∧ Hid (NM wr w.heap.size j (preF j))) (fun vi _ => 4 - (intOf vi).toNat)
  case atStart => exact ⟨0, by omega, rfl, HB, HN⟩
  case round =>
    clear HB HN c0 c1 c2 c3 hmm
    obtain ⟨j, hj, rfl, HB, HN⟩ := hrel
    have hj5 : j = 0 ∨ j = 1 ∨ j = 2 ∨ j = 3 ∨ j = 4 := by omega
    have x0 := flg_index 0 (by omega) wr
    have x1 := flg_index 1 (by omega) wr
    have x2 := flg_index 2 (by omega) wr
    have x3 := flg_index 3 (by omega) wr
    change (Instr.index 95 (.agg #[.string (bs [108, 105, 116]), .string (bs [111, 112, 101, 110]), .string (bs [98, 111, 120]), .string (bs [104, 105, 100, 100, 101, 110])]) (.int .i64 0)).run Tryd.prog wr = .ok (.string (bs [108, 105, 116])) wr at x0
    change (Instr.index 95 (.agg #[.string (bs [108, 105, 116]), .string (bs [111, 112, 101, 110]), .string (bs [98, 111, 120]), .string (bs [104, 105, 100, 100, 101, 110])]) (.int .i64 1)).run Tryd.prog wr = .ok (.string (bs [111, 112, 101, 110])) wr at x1
    change (Instr.index 95 (.agg #[.string (bs [108, 105, 116]), .string (bs [111, 112, 101, 110]), .string (bs [98, 111, 120]), .string (bs [104, 105, 100, 100, 101, 110])]) (.int .i64 2)).run Tryd.prog wr = .ok (.string (bs [98, 111, 120])) wr at x2
    change (Instr.index 95 (.agg #[.string (bs [108, 105, 116]), .string (bs [111, 112, 101, 110]), .string (bs [98, 111, 120]), .string (bs [104, 105, 100, 100, 101, 110])]) (.int .i64 3)).run Tryd.prog wr = .ok (.string (bs [104, 105, 100, 100, 101, 110])) wr at x3
    rcases hj5 with rfl | rfl | rfl | rfl | rfl
    · go_wp2_with (first | (at_mapUpdate; refine wpList_putN rfl _ _ _ rfl w.heap.size _ _ rfl HN.out (by decide) (bs [108, 105, 116]) (by decide) ⟨[108, 105, 116], 1, 0⟩ rfl rfl ?_; intro w1 h1 hg1) | go_in)
      have HB1 : Hid (Below w.heap.size w w1) := Lib.hid (HB.out.grown hg1 HB.out.size (fun k e => by cases e; exact Nat.le_refl _))
      have HN1 : Hid (NM w1 w.heap.size 1 (preF 1)) := Lib.hid (by rw [data_bs] at h1; exact h1)
      clear h1 hg1
      go_wp2_with fail
      go_roundw
      case rel => exact ⟨1, by omega, rfl, HB1, HN1⟩
      case measure => decide
    · go_wp2_with (first | (at_mapUpdate; refine wpList_putN rfl _ _ _ rfl w.heap.size _ _ rfl HN.out (by decide) (bs [111, 112, 101, 110]) (by decide) ⟨[111, 112, 101, 110], 1, 1⟩ rfl rfl ?_; intro w1 h1 hg1) | go_in)
      have HB1 : Hid (Below w.heap.size w w1) := Lib.hid (HB.out.grown hg1 HB.out.size (fun k e => by cases e; exact Nat.le_refl _))
      have HN1 : Hid (NM w1 w.heap.size 2 (preF 2)) := Lib.hid (by rw [data_bs] at h1; exact h1)
      clear h1 hg1
      go_wp2_with fail
      go_roundw
      case rel => exact ⟨2, by omega, rfl, HB1, HN1⟩
      case measure => decide
    · go_wp2_with (first | (at_mapUpdate; refine wpList_putN rfl _ _ _ rfl w.heap.size _ _ rfl HN.out (by decide) (bs [98, 111, 120]) (by decide) ⟨[98, 111, 120], 1, 2⟩ rfl rfl ?_; intro w1 h1 hg1) | go_in)
      have HB1 : Hid (Below w.heap.size w w1) := Lib.hid (HB.out.grown hg1 HB.out.size (fun k e => by cases e; exact Nat.le_refl _))
      have HN1 : Hid (NM w1 w.heap.size 3 (preF 3)) := Lib.hid (by rw [data_bs] at h1; exact h1)
      clear h1 hg1
      go_wp2_with fail
      go_roundw
      case rel => exact ⟨3, by omega, rfl, HB1, HN1⟩
      case measure => decide
    · go_wp2_with (first | (at_mapUpdate; refine wpList_putN rfl _ _ _ rfl w.heap.size _ _ rfl HN.out (by decide) (bs [104, 105, 100, 100, 101, 110]) (by decide) ⟨[104, 105, 100, 100, 101, 110], 1, 3⟩ rfl rfl ?_; intro w1 h1 hg1) | go_in)
      have HB1 : Hid (Below w.heap.size w w1) := Lib.hid (HB.out.grown hg1 HB.out.size (fun k e => by cases e; exact Nat.le_refl _))
      have HN1 : Hid (NM w1 w.heap.size 4 (preF 4)) := Lib.hid (by rw [data_bs] at h1; exact h1)
      clear h1 hg1
      go_wp2_with fail
      go_roundw
      case rel => exact ⟨4, by omega, rfl, HB1, HN1⟩
      case measure => decide
    · go_wp2_with fail
      go_ret
      exact ⟨rfl, HN.out.congr preF_all, HB.out⟩

end Go.Proofs.YtgeglhgkibcpfaaDoor
