/- Contracts of strings.Contains and strings.Split: the library's, laid at this program's numbers; what they come to. -/
import Derived.Test.YtpfkkmjodhpkoaaDoorRows
import Derived.Test.YtpfkkmjodhpkoaaDoorAbbP
import Derived.Test.YtpfkkmjodhpkoaaDoorStrA
import Derived.Shelf.Strings.SplitShaped
import Derived.Shelf.Strings.Shaped
namespace Go.Proofs.YtpfkkmjodhpkoaaDoor
open Go.RowKit

def ctnRen : Go.Shelf.Ren := ⟨fun | 144 => 67 | 143 => 78 | 219 => 83 | 217 => 88 | 225 => 89 | 224 => 90 | 267 => 91 | 266 => 95 | 314 => 96 | n => n, fun | 9 => 9 | 4 => 4 | 3 => 3 | 5 => 5 | 46 => 103 | 146 => 120 | 51 => 119 | n => n, fun | 1 => 0 | n => n⟩

theorem ctnLays : Go.Proofs.Lays.n144 Tryd.prog ctnRen := {
  mixed := by kernel_rfl
  f143 := Tryd.func78.trans (congrArg some (by kernel_rfl))
  f144 := Tryd.func67.trans (congrArg some (by kernel_rfl))
  f217 := Tryd.func88.trans (congrArg some (by kernel_rfl))
  f219 := Tryd.func83.trans (congrArg some (by kernel_rfl))
  f224 := Tryd.func90.trans (congrArg some (by kernel_rfl))
  f225 := Tryd.func89.trans (congrArg some (by kernel_rfl))
  f266 := Tryd.func95.trans (congrArg some (by kernel_rfl))
  f267 := Tryd.func91.trans (congrArg some (by kernel_rfl))
  f314 := Tryd.func96.trans (congrArg some (by kernel_rfl))
  t3 := Tryd.underlying3
  a3 := Tryd.isAgg3
  z3 := Tryd.sizeOf3
  v3 := Tryd.zeroValue3
  t4 := Tryd.underlying4
  a4 := Tryd.isAgg4
  z4 := Tryd.sizeOf4
  v4 := Tryd.zeroValue4
  t5 := Tryd.underlying5
  a5 := Tryd.isAgg5
  z5 := Tryd.sizeOf5
  v5 := Tryd.zeroValue5
  t9 := Tryd.underlying9
  a9 := Tryd.isAgg9
  z9 := Tryd.sizeOf9
  v9 := Tryd.zeroValue9
  t46 := Tryd.underlying103
  a46 := Tryd.isAgg103
  z46 := Tryd.sizeOf103
  v46 := Tryd.zeroValue103
  t51 := Tryd.underlying119
  a51 := Tryd.isAgg119
  z51 := Tryd.sizeOf119
  v51 := Tryd.zeroValue119
  t146 := Tryd.underlying120
  a146 := Tryd.isAgg120
  z146 := Tryd.sizeOf120
  v146 := Tryd.zeroValue120
  g1 := by kernel_rfl }

def sptRen : Go.Shelf.Ren := ⟨fun | 146 => 69 | 221 => 79 | 268 => 84 | 138 => 85 | 143 => 78 | 195 => 92 | 197 => 93 | 218 => 94 | 219 => 83 | 260 => 97 | 217 => 88 | 225 => 89 | 224 => 90 | 267 => 91 | 266 => 95 | 314 => 96 | n => n, fun | 9 => 9 | 31 => 22 | 3 => 3 | 4 => 4 | 0 => 0 | 105 => 117 | 21 => 21 | 5 => 5 | 46 => 103 | 119 => 122 | 139 => 125 | 138 => 124 | 146 => 120 | 51 => 119 | n => n, fun | 1 => 0 | 3 => 1 | 4 => 2 | n => n⟩

theorem sptLays : Go.Proofs.Lays.n146 Tryd.prog sptRen := {
  mixed := by kernel_rfl
  f138 := Tryd.func85.trans (congrArg some (by kernel_rfl))
  f143 := Tryd.func78.trans (congrArg some (by kernel_rfl))
  f146 := Tryd.func69.trans (congrArg some (by kernel_rfl))
  f195 := Tryd.func92.trans (congrArg some (by kernel_rfl))
  f197 := Tryd.func93.trans (congrArg some (by kernel_rfl))
  f217 := Tryd.func88.trans (congrArg some (by kernel_rfl))
  f218 := Tryd.func94.trans (congrArg some (by kernel_rfl))
  f219 := Tryd.func83.trans (congrArg some (by kernel_rfl))
  f221 := Tryd.func79.trans (congrArg some (by kernel_rfl))
  f224 := Tryd.func90.trans (congrArg some (by kernel_rfl))
  f225 := Tryd.func89.trans (congrArg some (by kernel_rfl))
  f260 := Tryd.func97.trans (congrArg some (by kernel_rfl))
  f266 := Tryd.func95.trans (congrArg some (by kernel_rfl))
  f267 := Tryd.func91.trans (congrArg some (by kernel_rfl))
  f268 := Tryd.func84.trans (congrArg some (by kernel_rfl))
  f314 := Tryd.func96.trans (congrArg some (by kernel_rfl))
  t0 := Tryd.underlying0
  a0 := Tryd.isAgg0
  z0 := Tryd.sizeOf0
  v0 := Tryd.zeroValue0
  t3 := Tryd.underlying3
  a3 := Tryd.isAgg3
  z3 := Tryd.sizeOf3
  v3 := Tryd.zeroValue3
  t4 := Tryd.underlying4
  a4 := Tryd.isAgg4
  z4 := Tryd.sizeOf4
  v4 := Tryd.zeroValue4
  t5 := Tryd.underlying5
  a5 := Tryd.isAgg5
  z5 := Tryd.sizeOf5
  v5 := Tryd.zeroValue5
  t9 := Tryd.underlying9
  a9 := Tryd.isAgg9
  z9 := Tryd.sizeOf9
  v9 := Tryd.zeroValue9
  t21 := Tryd.underlying21
  a21 := Tryd.isAgg21
  z21 := Tryd.sizeOf21
  v21 := Tryd.zeroValue21
  t31 := Tryd.underlying22
  a31 := Tryd.isAgg22
  z31 := Tryd.sizeOf22
  v31 := Tryd.zeroValue22
  t46 := Tryd.underlying103
  a46 := Tryd.isAgg103
  z46 := Tryd.sizeOf103
  v46 := Tryd.zeroValue103
  t51 := Tryd.underlying119
  a51 := Tryd.isAgg119
  z51 := Tryd.sizeOf119
  v51 := Tryd.zeroValue119
  t105 := Tryd.underlying117
  a105 := Tryd.isAgg117
  z105 := Tryd.sizeOf117
  v105 := Tryd.zeroValue117
  t119 := Tryd.underlying122
  a119 := Tryd.isAgg122
  z119 := Tryd.sizeOf122
  t138 := Tryd.underlying124
  a138 := Tryd.isAgg124
  z138 := Tryd.sizeOf124
  v138 := Tryd.zeroValue124
  t139 := Tryd.underlying125
  a139 := Tryd.isAgg125
  z139 := Tryd.sizeOf125
  v139 := Tryd.zeroValue125
  t146 := Tryd.underlying120
  a146 := Tryd.isAgg120
  z146 := Tryd.sizeOf120
  v146 := Tryd.zeroValue120
  g1 := by kernel_rfl
  g3 := by kernel_rfl
  g4 := by kernel_rfl }

theorem occAt_pre (row s : List UInt8) (i : Nat) : Lib.occAt s row i = isPre row (s.drop i) := by
  unfold Lib.occAt isPre
  rw [Bool.eq_iff_iff, List.isPrefixOf_iff_prefix, List.prefix_iff_eq_take, decide_eq_true_eq]
  exact eq_comm

theorem splA_none {row : List UInt8} (hr : row ≠ []) : ∀ (n : Nat) (acc s : List UInt8), s.length ≤ n → (∀ j, j ≤ s.length → Lib.occAt s row j = false) → splA row acc s = [acc ++ s] := by
  have hp := pos_of_ne hr
  intro n
  induction n with
  | zero => intro acc s h _; exact splA_short (by omega)
  | succ n ih =>
    intro acc s h hn
    by_cases hl : row.length ≤ s.length
    · have h0 := hn 0 (Nat.zero_le _)
      rw [occAt_pre, List.drop_zero] at h0
      rw [splA_miss hr hl h0, ih _ (s.drop 1) (by rw [List.length_drop]; omega) ?_]
      · rw [take_drop_one]
      · intro j hj
        rw [List.length_drop] at hj
        have h1 := hn (j + 1) (by omega)
        rw [occAt_pre] at h1 ⊢
        rw [List.drop_drop, Nat.add_comm 1 j]
        exact h1
    · exact splA_short (by omega)

theorem splA_first {row : List UInt8} (hr : row ≠ []) : ∀ (i : Nat) (acc s : List UInt8), Lib.occAt s row i = true → (∀ j, j < i → Lib.occAt s row j = false) → splA row acc s = (acc ++ s.take i) :: splA row [] (s.drop (i + row.length)) := by
  intro i
  induction i with
  | zero =>
    intro acc s h _
    rw [occAt_pre, List.drop_zero] at h
    rw [splA_hit hr h, List.take_zero, List.append_nil, Nat.zero_add]
  | succ i ih =>
    intro acc s h hn
    have h0 := hn 0 (by omega)
    rw [occAt_pre, List.drop_zero] at h0
    have hrm : row.length ≤ s.length := by
      rcases Lib.occAt_room h with h | h
      · omega
      · exact absurd h hr
    rw [splA_miss hr hrm h0, ih (acc ++ s.take 1) (s.drop 1) (by rw [occAt_pre] at h ⊢; rw [List.drop_drop, Nat.add_comm 1 i]; exact h) (fun j hj => by
      have h1 := hn (j + 1) (by omega)
      rw [occAt_pre] at h1 ⊢
      rw [List.drop_drop, Nat.add_comm 1 j]
      exact h1)]
    congr 1
    · rw [List.append_assoc]
      congr 1
      rw [Nat.add_comm i 1, List.take_add]
    · rw [List.drop_drop]
      congr 2
      omega

theorem contains_no {row s : List UInt8} (hr : row ≠ []) (h : Lib.contains s row = false) : spl row s = [s] := by
  unfold Lib.contains at h
  rw [decide_eq_false_iff_not] at h
  rcases Lib.index_spec s row with ⟨_, h2⟩ | ⟨i, h1, _⟩
  · rw [spl_eq, splA_none hr _ [] s (Nat.le_refl _) h2]
    rfl
  · omega

theorem split_spl {row : List UInt8} (hr : row ≠ []) : ∀ (n : Nat) (s : List UInt8), s.length ≤ n → Lib.splitK row 0 (Lib.count s row) s = spl row s := by
  have hp := pos_of_ne hr
  intro n
  induction n with
  | zero =>
    intro s h
    have : s = [] := List.eq_nil_of_length_eq_zero (by omega)
    subst this
    rcases Lib.index_spec [] row with ⟨h1, h2⟩ | ⟨i, h1, _, h3, _⟩
    · rw [Lib.count_miss h1, spl_eq, splA_none hr _ [] [] (Nat.le_refl _) h2]
      rfl
    · rcases Lib.occAt_room h3 with h4 | h4
      · rw [List.length_nil] at h4; omega
      · exact absurd h4 hr
  | succ n ih =>
    intro s h
    rcases Lib.index_spec s row with ⟨h1, h2⟩ | ⟨i, h1, h2, h3, h4⟩
    · rw [Lib.count_miss h1, spl_eq, splA_none hr _ [] s (Nat.le_refl _) h2]
      rfl
    · have hm : ¬ (Lib.index s row == -1) = true := fun e => by have := beq_iff_eq.1 e; omega
      have e : (Lib.index s row).toNat = i := by omega
      have hrm : i + row.length ≤ s.length := by
        rcases Lib.occAt_room h3 with h | h
        · exact h
        · exact absurd h hr
      rw [Lib.count_hit hr h1, Nat.add_comm, Lib.splitK, if_neg hm, e, ih (s.drop (i + row.length)) (by rw [List.length_drop]; omega), spl_eq row s, splA_first hr i [] s h3 h4]
      rfl

theorem contains_any (w : World) (s p : ByteArray) (hm : ∃ m, w.cell? ⟨0, 0, none⟩ = some (.int .i64 m)) (hs : (s.size : Int) ≤ 100000) :
    Calls Tryd.prog 67 #[.string s, .string p] w fun e w' => e = .returned (.bool (Lib.contains s.data.toList p.data.toList)) ∧ w = w' := by
  obtain ⟨m, hm⟩ := hm
  exact (Any.strings_Contains ctnLays s p m w (by omega) hm).mono fun e w' ⟨h1, h2⟩ => ⟨h1, h2.symm⟩

theorem RdS.new_at (w : World) (k : Nat) (hk : k = w.heap.size) (ls : List (List UInt8)) (t : TypeId) (cs : Array Value) (hcs : cs = (sc ls).toArray) (n : Nat) (hn : n = ls.length) : RdS (w.alloc (.cells cs t)) (w.alloc (.cells cs t)).heap.size (some ⟨k, 0, none⟩) n ls := by
  subst hk hcs hn
  refine ⟨rfl, fun _ => ⟨_, rfl, by simp, fun j hj => ?_⟩⟩
  rw [Addr.add_lit, Nat.zero_add, (Blk.new w t _).cell, List.getElem?_toArray, sc_at hj]

theorem split_any (w : World) (s p : ByteArray) (hm : ∃ m, w.cell? ⟨0, 0, none⟩ = some (.int .i64 m)) (hs : (s.size : Int) ≤ 100000) (hp : 1 ≤ p.size) :
    Calls Tryd.prog 69 #[.string s, .string p] w fun e w' => ∃ n, e = .returned (.slice (some ⟨w.heap.size, 0, none⟩) n n) ∧ n = (spl p.data.toList s.data.toList).length ∧ w' = w.alloc (.cells (sc (spl p.data.toList s.data.toList)).toArray 9) := by
  obtain ⟨m, hm⟩ := hm
  have hne : p.data.toList ≠ [] := fun e => by
    have h1 : p.data.toList.length = p.size := by rw [Array.length_toList]; rfl
    rw [e, List.length_nil] at h1
    omega
  have hd := Lib.splitB_data p 0 (Lib.countB s p) s
  have hk := split_spl hne s.data.toList.length s.data.toList (Nat.le_refl _)
  have hl := Lib.splitB_all p hp 0 _ s rfl
  have h1 : (Lib.splitB p 0 (Lib.countB s p) s).map (·.data.toList) = spl p.data.toList s.data.toList := hd.trans hk
  refine (Any.strings_Split sptLays (by kernel_rfl) s p m w (by omega) hm hp).mono ?_
  rintro e w' ⟨rfl, rfl⟩
  refine ⟨_, rfl, ?_, ?_⟩
  · rw [← h1, List.length_map, hl]
  · have e2 : (Lib.splitB p 0 (Lib.countB s p) s).map Value.string = sc (spl p.data.toList s.data.toList) := by
      rw [← h1]
      unfold sc
      rw [List.map_map]
      refine List.map_congr_left fun x _ => ?_
      show Value.string x = .string (bs x.data.toList)
      rw [bs_data]
    rw [e2]
    rfl

end Go.Proofs.YtpfkkmjodhpkoaaDoor
