/- Contracts of strings.Contains and strings.Split: the library's, laid at this program's numbers; what they come to. -/
import Derived.Test.YtpfkkmjodhpkoaaGreatDoorRows
import Derived.Test.YtpfkkmjodhpkoaaGreatDoorAbbP
import Derived.Test.YtpfkkmjodhpkoaaGreatDoorStrA
import Derived.Shelf.Strings.SplitShaped
import Derived.Shelf.Strings.Shaped
namespace Go.Proofs.YtpfkkmjodhpkoaaGreatDoor
open Go.RowKit

def ctnRen : Go.Shelf.Ren := ⟨fun | 144 => 71 | 143 => 83 | 219 => 90 | 217 => 94 | 225 => 95 | 224 => 96 | 267 => 97 | 266 => 101 | 314 => 102 | n => n, fun | 9 => 9 | 4 => 4 | 3 => 3 | 5 => 5 | 46 => 81 | 146 => 119 | 51 => 118 | n => n, fun | 1 => 0 | n => n⟩

theorem ctnLays : Go.Proofs.Lays.n144 Tryz.prog ctnRen := {
  mixed := by kernel_rfl
  f143 := Tryz.func83.trans (congrArg some (by kernel_rfl))
  f144 := Tryz.func71.trans (congrArg some (by kernel_rfl))
  f217 := Tryz.func94.trans (congrArg some (by kernel_rfl))
  f219 := Tryz.func90.trans (congrArg some (by kernel_rfl))
  f224 := Tryz.func96.trans (congrArg some (by kernel_rfl))
  f225 := Tryz.func95.trans (congrArg some (by kernel_rfl))
  f266 := Tryz.func101.trans (congrArg some (by kernel_rfl))
  f267 := Tryz.func97.trans (congrArg some (by kernel_rfl))
  f314 := Tryz.func102.trans (congrArg some (by kernel_rfl))
  t3 := Tryz.underlying3
  a3 := Tryz.isAgg3
  z3 := Tryz.sizeOf3
  v3 := Tryz.zeroValue3
  t4 := Tryz.underlying4
  a4 := Tryz.isAgg4
  z4 := Tryz.sizeOf4
  v4 := Tryz.zeroValue4
  t5 := Tryz.underlying5
  a5 := Tryz.isAgg5
  z5 := Tryz.sizeOf5
  v5 := Tryz.zeroValue5
  t9 := Tryz.underlying9
  a9 := Tryz.isAgg9
  z9 := Tryz.sizeOf9
  v9 := Tryz.zeroValue9
  t46 := Tryz.underlying81
  a46 := Tryz.isAgg81
  z46 := Tryz.sizeOf81
  v46 := Tryz.zeroValue81
  t51 := Tryz.underlying118
  a51 := Tryz.isAgg118
  z51 := Tryz.sizeOf118
  v51 := Tryz.zeroValue118
  t146 := Tryz.underlying119
  a146 := Tryz.isAgg119
  z146 := Tryz.sizeOf119
  v146 := Tryz.zeroValue119
  g1 := by kernel_rfl }

def sptRen : Go.Shelf.Ren := ⟨fun | 146 => 73 | 221 => 84 | 268 => 91 | 138 => 92 | 143 => 83 | 195 => 98 | 197 => 99 | 218 => 100 | 219 => 90 | 260 => 103 | 217 => 94 | 225 => 95 | 224 => 96 | 267 => 97 | 266 => 101 | 314 => 102 | n => n, fun | 9 => 9 | 31 => 22 | 3 => 3 | 4 => 4 | 0 => 0 | 105 => 116 | 21 => 21 | 5 => 5 | 46 => 81 | 119 => 121 | 139 => 124 | 138 => 123 | 146 => 119 | 51 => 118 | n => n, fun | 1 => 0 | 3 => 1 | 4 => 2 | n => n⟩

theorem sptLays : Go.Proofs.Lays.n146 Tryz.prog sptRen := {
  mixed := by kernel_rfl
  f138 := Tryz.func92.trans (congrArg some (by kernel_rfl))
  f143 := Tryz.func83.trans (congrArg some (by kernel_rfl))
  f146 := Tryz.func73.trans (congrArg some (by kernel_rfl))
  f195 := Tryz.func98.trans (congrArg some (by kernel_rfl))
  f197 := Tryz.func99.trans (congrArg some (by kernel_rfl))
  f217 := Tryz.func94.trans (congrArg some (by kernel_rfl))
  f218 := Tryz.func100.trans (congrArg some (by kernel_rfl))
  f219 := Tryz.func90.trans (congrArg some (by kernel_rfl))
  f221 := Tryz.func84.trans (congrArg some (by kernel_rfl))
  f224 := Tryz.func96.trans (congrArg some (by kernel_rfl))
  f225 := Tryz.func95.trans (congrArg some (by kernel_rfl))
  f260 := Tryz.func103.trans (congrArg some (by kernel_rfl))
  f266 := Tryz.func101.trans (congrArg some (by kernel_rfl))
  f267 := Tryz.func97.trans (congrArg some (by kernel_rfl))
  f268 := Tryz.func91.trans (congrArg some (by kernel_rfl))
  f314 := Tryz.func102.trans (congrArg some (by kernel_rfl))
  t0 := Tryz.underlying0
  a0 := Tryz.isAgg0
  z0 := Tryz.sizeOf0
  v0 := Tryz.zeroValue0
  t3 := Tryz.underlying3
  a3 := Tryz.isAgg3
  z3 := Tryz.sizeOf3
  v3 := Tryz.zeroValue3
  t4 := Tryz.underlying4
  a4 := Tryz.isAgg4
  z4 := Tryz.sizeOf4
  v4 := Tryz.zeroValue4
  t5 := Tryz.underlying5
  a5 := Tryz.isAgg5
  z5 := Tryz.sizeOf5
  v5 := Tryz.zeroValue5
  t9 := Tryz.underlying9
  a9 := Tryz.isAgg9
  z9 := Tryz.sizeOf9
  v9 := Tryz.zeroValue9
  t21 := Tryz.underlying21
  a21 := Tryz.isAgg21
  z21 := Tryz.sizeOf21
  v21 := Tryz.zeroValue21
  t31 := Tryz.underlying22
  a31 := Tryz.isAgg22
  z31 := Tryz.sizeOf22
  v31 := Tryz.zeroValue22
  t46 := Tryz.underlying81
  a46 := Tryz.isAgg81
  z46 := Tryz.sizeOf81
  v46 := Tryz.zeroValue81
  t51 := Tryz.underlying118
  a51 := Tryz.isAgg118
  z51 := Tryz.sizeOf118
  v51 := Tryz.zeroValue118
  t105 := Tryz.underlying116
  a105 := Tryz.isAgg116
  z105 := Tryz.sizeOf116
  v105 := Tryz.zeroValue116
  t119 := Tryz.underlying121
  a119 := Tryz.isAgg121
  z119 := Tryz.sizeOf121
  t138 := Tryz.underlying123
  a138 := Tryz.isAgg123
  z138 := Tryz.sizeOf123
  v138 := Tryz.zeroValue123
  t139 := Tryz.underlying124
  a139 := Tryz.isAgg124
  z139 := Tryz.sizeOf124
  v139 := Tryz.zeroValue124
  t146 := Tryz.underlying119
  a146 := Tryz.isAgg119
  z146 := Tryz.sizeOf119
  v146 := Tryz.zeroValue119
  g1 := by kernel_rfl
  g3 := by kernel_rfl
  g4 := by kernel_rfl }

theorem occAt_pre (row s : List UInt8) (i : Nat) : Lib.occAt s row i = isPre row (s.drop i) := by
  unfold Lib.occAt isPre
  rw [Bool.eq_iff_iff, List.isPrefixOf_iff_prefix, List.prefix_iff_eq_take, decide_eq_true_eq]
  exact eq_comm

theorem splA_none {row : List UInt8} (hr : row ≠ []) : ∀ (n : Nat) (acc s : List UInt8), s.length ≤ n → (∀ j, j ≤ s.length → Lib.occAt s row j = false) → splA row acc s = [acc ++ s] := by
  have hp := pos_of_ne hr
  intro n
  induction n with
  | zero => intro acc s h _; exact splA_short (by omega)
  | succ n ih =>
    intro acc s h hn
    by_cases hl : row.length ≤ s.length
    · have h0 := hn 0 (Nat.zero_le _)
      rw [occAt_pre, List.drop_zero] at h0
      rw [splA_miss hr hl h0, ih _ (s.drop 1) (by rw [List.length_drop]; omega) ?_]
      · rw [take_drop_one]
      · intro j hj
        rw [List.length_drop] at hj
        have h1 := hn (j + 1) (by omega)
        rw [occAt_pre] at h1 ⊢
        rw [List.drop_drop, Nat.add_comm 1 j]
        exact h1
    · exact splA_short (by omega)

theorem splA_first {row : List UInt8} (hr : row ≠ []) : ∀ (i : Nat) (acc s : List UInt8), Lib.occAt s row i = true → (∀ j, j < i → Lib.occAt s row j = false) → splA row acc s = (acc ++ s.take i) :: splA row [] (s.drop (i + row.length)) := by
  intro i
  induction i with
  | zero =>
    intro acc s h _
    rw [occAt_pre, List.drop_zero] at h
    rw [splA_hit hr h, List.take_zero, List.append_nil, Nat.zero_add]
  | succ i ih =>
    intro acc s h hn
    have h0 := hn 0 (by omega)
    rw [occAt_pre, List.drop_zero] at h0
    have hrm : row.length ≤ s.length := by
      rcases Lib.occAt_room h with h | h
      · omega
      · exact absurd h hr
    rw [splA_miss hr hrm h0, ih (acc ++ s.take 1) (s.drop 1) (by rw [occAt_pre] at h ⊢; rw [List.drop_drop, Nat.add_comm 1 i]; exact h) (fun j hj => by
      have h1 := hn (j + 1) (by omega)
      rw [occAt_pre] at h1 ⊢
      rw [List.drop_drop, Nat.add_comm 1 j]
      exact h1)]
    congr 1
    · rw [List.append_assoc]
      congr 1
      rw [Nat.add_comm i 1, List.take_add]
    · rw [List.drop_drop]
      congr 2
      omega

theorem contains_no {row s : List UInt8} (hr : row ≠ []) (h : Lib.contains s row = false) : spl row s = [s] := by
  unfold Lib.contains at h
  rw [decide_eq_false_iff_not] at h
  rcases Lib.index_spec s row with ⟨_, h2⟩ | ⟨i, h1, _⟩
  · rw [spl_eq, splA_none hr _ [] s (Nat.le_refl _) h2]
    rfl
  · omega

theorem split_spl {row : List UInt8} (hr : row ≠ []) : ∀ (n : Nat) (s : List UInt8), s.length ≤ n → Lib.splitK row 0 (Lib.count s row) s = spl row s := by
  have hp := pos_of_ne hr
  intro n
  induction n with
  | zero =>
    intro s h
    have : s = [] := List.eq_nil_of_length_eq_zero (by omega)
    subst this
    rcases Lib.index_spec [] row with ⟨h1, h2⟩ | ⟨i, h1, _, h3, _⟩
    · rw [Lib.count_miss h1, spl_eq, splA_none hr _ [] [] (Nat.le_refl _) h2]
      rfl
    · rcases Lib.occAt_room h3 with h4 | h4
      · rw [List.length_nil] at h4; omega
      · exact absurd h4 hr
  | succ n ih =>
    intro s h
    rcases Lib.index_spec s row with ⟨h1, h2⟩ | ⟨i, h1, h2, h3, h4⟩
    · rw [Lib.count_miss h1, spl_eq, splA_none hr _ [] s (Nat.le_refl _) h2]
      rfl
    · have hm : ¬ (Lib.index s row == -1) = true := fun e => by have := beq_iff_eq.1 e; omega
      have e : (Lib.index s row).toNat = i := by omega
      have hrm : i + row.length ≤ s.length := by
        rcases Lib.occAt_room h3 with h | h
        · exact h
        · exact absurd h hr
      rw [Lib.count_hit hr h1, Nat.add_comm, Lib.splitK, if_neg hm, e, ih (s.drop (i + row.length)) (by rw [List.length_drop]; omega), spl_eq row s, splA_first hr i [] s h3 h4]
      rfl

theorem contains_any (w : World) (s p : ByteArray) (hm : ∃ m, w.cell? ⟨0, 0, none⟩ = some (.int .i64 m)) (hs : (s.size : Int) ≤ 100000) :
    Calls Tryz.prog 71 #[.string s, .string p] w fun e w' => e = .returned (.bool (Lib.contains s.data.toList p.data.toList)) ∧ w = w' := by
  obtain ⟨m, hm⟩ := hm
  exact (Any.strings_Contains ctnLays s p m w (by omega) hm).mono fun e w' ⟨h1, h2⟩ => ⟨h1, h2.symm⟩

theorem RdS.new_at (w : World) (k : Nat) (hk : k = w.heap.size) (ls : List (List UInt8)) (t : TypeId) (cs : Array Value) (hcs : cs = (sc ls).toArray) (n : Nat) (hn : n = ls.length) : RdS (w.alloc (.cells cs t)) (w.alloc (.cells cs t)).heap.size (some ⟨k, 0, none⟩) n ls := by
  subst hk hcs hn
  refine ⟨rfl, fun _ => ⟨_, rfl, by simp, fun j hj => ?_⟩⟩
  rw [Addr.add_lit, Nat.zero_add, (Blk.new w t _).cell, List.getElem?_toArray, sc_at hj]

theorem split_any (w : World) (s p : ByteArray) (hm : ∃ m, w.cell? ⟨0, 0, none⟩ = some (.int .i64 m)) (hs : (s.size : Int) ≤ 100000) (hp : 1 ≤ p.size) :
    Calls Tryz.prog 73 #[.string s, .string p] w fun e w' => ∃ n, e = .returned (.slice (some ⟨w.heap.size, 0, none⟩) n n) ∧ n = (spl p.data.toList s.data.toList).length ∧ w' = w.alloc (.cells (sc (spl p.data.toList s.data.toList)).toArray 9) := by
  obtain ⟨m, hm⟩ := hm
  have hne : p.data.toList ≠ [] := fun e => by
    have h1 : p.data.toList.length = p.size := by rw [Array.length_toList]; rfl
    rw [e, List.length_nil] at h1
    omega
  have hd := Lib.splitB_data p 0 (Lib.countB s p) s
  have hk := split_spl hne s.data.toList.length s.data.toList (Nat.le_refl _)
  have hl := Lib.splitB_all p hp 0 _ s rfl
  have h1 : (Lib.splitB p 0 (Lib.countB s p) s).map (·.data.toList) = spl p.data.toList s.data.toList := hd.trans hk
  refine (Any.strings_Split sptLays (by kernel_rfl) s p m w (by omega) hm hp).mono ?_
  rintro e w' ⟨rfl, rfl⟩
  refine ⟨_, rfl, ?_, ?_⟩
  · rw [← h1, List.length_map, hl]
  · have e2 : (Lib.splitB p 0 (Lib.countB s p) s).map Value.string = sc (spl p.data.toList s.data.toList) := by
      rw [← h1]
      unfold sc
      rw [List.map_map]
      refine List.map_congr_left fun x _ => ?_
      show Value.string x = .string (bs x.data.toList)
      rw [bs_data]
    rw [e2]
    rfl

end Go.Proofs.YtpfkkmjodhpkoaaGreatDoor
