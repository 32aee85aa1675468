/- strings.Compare, a binary search, the program's Find, Of, Text; slices.SortFunc at names; slices.SortedFunc over a map's values. -/
import Derived.Test.YtgeglhgkibcpfaaDoorNamA
import Derived.Lib.Bytealg
import Derived.Deep.LoopGhost
import Derived.Test.YtgeglhgkibcpfaaDoorNmqC
import Derived.Shelf.SlSortCmp.WholeK
namespace Go.Proofs.YtgeglhgkibcpfaaDoor
open Go.RowKit
set_option linter.unusedVariables false

theorem cmpB_lt : ∀ (a b : List UInt8), Lib.compareBytes a b < 0 ↔ a < b
  | [], [] => by simp [Lib.compareBytes]
  | [], _ :: _ => by simp [Lib.compareBytes]
  | _ :: _, [] => by simp [Lib.compareBytes]
  | x :: a, y :: b => by
    unfold Lib.compareBytes
    rw [List.cons_lt_cons_iff]
    by_cases h : x < y
    · simp [h]
    · by_cases h2 : y < x
      · have hne : x ≠ y := fun e => by subst e; exact h h2
        simp [h, h2, hne]
      · have he : x = y := UInt8.le_antisymm (UInt8.not_lt.1 h2) (UInt8.not_lt.1 h)
        subst he
        simp only [h, if_false, false_or, true_and]
        exact cmpB_lt a b

theorem cmpB_eq : ∀ (a b : List UInt8), Lib.compareBytes a b = 0 ↔ a = b
  | [], [] => by simp [Lib.compareBytes]
  | [], _ :: _ => by simp [Lib.compareBytes]
  | _ :: _, [] => by simp [Lib.compareBytes]
  | x :: a, y :: b => by
    unfold Lib.compareBytes
    by_cases h : x < y
    · have hne : x ≠ y := fun e => by subst e; exact UInt8.lt_irrefl _ h
      simp [h, hne]
    · by_cases h2 : y < x
      · have hne : x ≠ y := fun e => by subst e; exact h h2
        simp [h, h2, hne]
      · have he : x = y := UInt8.le_antisymm (UInt8.not_lt.1 h2) (UInt8.not_lt.1 h)
        subst he
        simp only [h, if_false, List.cons.injEq, true_and]
        exact cmpB_eq a b

set_option maxHeartbeats 1000000 in
theorem ncs_any (a b : ByteArray) (w : World) : Calls Tryd.prog 50 #[.string a, .string b] w fun e w' => e = .returned (.int .i64 (Lib.compareBytes a.data.toList b.data.toList)) ∧ w' = w := by
  go_enter Tryd.func50, Tryd.ntmps50
  go_wp2
  rw [run_callFunc_extern Tryd.func59 (by kernel_rfl) (by kernel_rfl) (by kernel_rfl) (e := Extern.BytealgCompare.compare) (by kernel_rfl), Lib.run_compareString]
  simp only [Result.andThen]
  rw [Oper.upon_value]
  go_wp2
  go_ret
  exact ⟨rfl, rfl⟩

set_option maxHeartbeats 1000000 in
theorem ncmp_any (a b : ByteArray) (w : World) : Calls Tryd.prog 28 #[.string a, .string b] w fun e w' => e = .returned (.int .i64 (Lib.compareBytes a.data.toList b.data.toList)) ∧ w' = w := by
  go_enter Tryd.func28, Tryd.ntmps28
  go_wp2_with fail
  refine (ncs_any _ _ _).mono ?_
  rintro e w' ⟨rfl, rfl⟩
  go_wp2_with fail
  go_ret
  exact ⟨rfl, rfl⟩

/-- a name against a text -/
def cfN (x : Nm) (s : List UInt8) : Int := Lib.compareBytes x.name s

set_option maxHeartbeats 1000000 in
theorem nfind1_any (x : Nm) (s : ByteArray) (w : World) : Calls Tryd.prog 35 #[.agg #[.string (bs x.name), .int .i64 x.kind, .int .i64 x.num], .string s] w fun e w' => e = .returned (.int .i64 (cfN x s.data.toList)) ∧ Below w.heap.size w w' := by
  obtain ⟨W, hW⟩ : ∃ W, W = w.alloc (.cells #[.string (bs x.name), .int .i64 x.kind, .int .i64 x.num] 45) := ⟨_, rfl⟩
  have HBW : Hid (Below w.heap.size w W) := Lib.hid (by rw [hW]; exact (Below.refl _ _).alloc (Nat.le_refl _) _)
  have hk : Blk W w.heap.size 45 #[.string (bs x.name), .int .i64 x.kind, .int .i64 x.num] := by rw [hW]; exact Blk.new _ _ _
  have hc0 := hk.cell 0
  simp at hc0
  clear hk
  go_enter Tryd.func35, Tryd.ntmps35
  go_wp2_with fail
  rw [← hW]
  clear hW
  go_wp2_with fail
  refine (ncmp_any _ _ _).mono ?_
  rintro e w' ⟨rfl, rfl⟩
  go_wp2_with fail
  go_ret
  exact ⟨by rw [data_bs]; rfl, HBW.out⟩

/-- where a text stands among names that rise -/
theorem rank_lt {ts : List Nm} (s : List UInt8) (h : Rises ts) : ∀ j, j < ts.length → ((ts[j]?.getD noNm).name < s ↔ j < rankN ts s) := by
  induction ts with
  | nil => intro j hj; simp at hj
  | cons x r ih =>
    obtain ⟨h1, h2⟩ := List.pairwise_cons.1 h
    intro j hj
    rw [rankN_cons]
    cases j with
    | zero =>
      show x.name < s ↔ _
      by_cases hx : ltB x.name s = true
      · rw [if_pos hx]
        exact ⟨fun _ => by omega, fun _ => (ltB_iff _ _).1 hx⟩
      · rw [if_neg hx]
        exact ⟨fun e => absurd ((ltB_iff _ _).2 e) hx, fun e => by omega⟩
    | succ j =>
      rw [List.length_cons] at hj
      show (r[j]?.getD noNm).name < s ↔ _
      by_cases hx : ltB x.name s = true
      · rw [if_pos hx, ih h2 j (by omega)]
        omega
      · rw [if_neg hx]
        refine ⟨fun e => ?_, fun e => by omega⟩
        have hm : r[j]?.getD noNm ∈ r := by
          rw [List.getElem?_eq_getElem (by omega)]
          exact List.getElem_mem _
        exact absurd ((ltB_iff _ _).2 (List.lt_trans (h1 _ hm) e)) hx

theorem find_rank {ts : List Nm} (s : List UInt8) (h : Rises ts) : findI ts s = if rankN ts s < ts.length ∧ (ts[rankN ts s]?.getD noNm).name = s then some (ts[rankN ts s]?.getD noNm) else none := by
  by_cases hc : rankN ts s < ts.length ∧ (ts[rankN ts s]?.getD noNm).name = s
  · rw [if_pos hc]
    have hm : ts[rankN ts s]?.getD noNm ∈ ts := by
      rw [List.getElem?_eq_getElem hc.1]
      exact List.getElem_mem _
    have := h.find hm
    rw [hc.2] at this
    exact this
  · rw [if_neg hc, findI_none]
    intro x hx e
    obtain ⟨j, hj, rfl⟩ := List.getElem_of_mem hx
    have hj2 : (ts[j]?.getD noNm) = ts[j] := by rw [List.getElem?_eq_getElem hj]; rfl
    have h1 : ¬ j < rankN ts s := by
      rw [← rank_lt s h j hj, hj2, e]
      exact List.lt_irrefl _
    have h2 : rankN ts s < ts.length := by omega
    rcases Nat.lt_or_eq_of_le (Nat.le_of_not_lt h1) with h3 | h3
    · have h4 : ¬ rankN ts s < rankN ts s := Nat.lt_irrefl _
      rw [← rank_lt s h _ h2] at h4
      have hr2 : (ts[rankN ts s]?.getD noNm) = ts[rankN ts s] := by rw [List.getElem?_eq_getElem h2]; rfl
      rw [hr2] at h4
      have h5 : ts[rankN ts s].name < ts[j].name := List.pairwise_iff_getElem.1 h _ _ h2 hj h3
      rw [e] at h5
      exact h4 h5
    · refine hc ⟨h2, ?_⟩
      rw [h3, hj2]
      exact e

set_option maxRecDepth 100000 in
set_option maxHeartbeats 3200000 in
theorem nbs_any (w : World) (A : Option Addr) (n c : Nat) (ts : List Nm) (s : ByteArray) (h : RdN w w.heap.size A n ts) (hn : (n : Int) ≤ 100000) (hri : Rises ts) :
    Calls Tryd.prog 36 #[.slice A n c, .string s, .func (.func 35) #[] #[]] w fun e w' =>
      e = .returned (.tuple #[.int .i64 (rankN ts s.data.toList : Nat), .bool (findI ts s.data.toList).isSome]) ∧ Below w.heap.size w w' := by
  have HR := Lib.hid h
  have hl := h.1
  have HL := Lib.hid hl
  have HRI := Lib.hid hri
  obtain ⟨R, hR⟩ : ∃ R, R = (findI ts s.data.toList).isSome := ⟨_, rfl⟩
  obtain ⟨K, hK⟩ : ∃ K, K = rankN ts s.data.toList := ⟨_, rfl⟩
  have hKn : K ≤ n := by rw [hK, ← hl]; exact rankN_le _ _
  rw [← hR, ← hK]
  have HF : Hid (R = decide (K < n ∧ (ts[K]?.getD noNm).name = s.data.toList)) := Lib.hid (by
    rw [hR, find_rank _ hri, ← hK, hl]
    by_cases hc : K < n ∧ (ts[K]?.getD noNm).name = s.data.toList
    · rw [if_pos hc]; simp [hc]
    · rw [if_neg hc]; simp [hc])
  have HK : Hid (∀ j, j < n → (cfN (ts[j]?.getD noNm) s.data.toList < 0 ↔ j < K)) := Lib.hid (fun j hj => by
    unfold cfN
    rw [cmpB_lt, hK]
    exact rank_lt _ hri j (by omega))
  clear h hl hri hR hK
  go_enter Tryd.func36, Tryd.ntmps36
  go_wp2_with fail
  go_loopg [9, 10] n (fun kx s9 s10 wr => ∃ lo hi : Nat, s9 = .int .i64 lo ∧ s10 = .int .i64 hi ∧ lo ≤ K ∧ K ≤ hi ∧ hi ≤ n ∧ hi - lo ≤ kx ∧ Hid (Below w.heap.size w wr))
  case atStart => exact ⟨0, n, rfl, rfl, Nat.zero_le _, hKn, Nat.le_refl _, by omega, Lib.hid (Below.refl _ _)⟩
  case round =>
    obtain ⟨lo, hi, rfl, rfl, hlK, hKh, hin, hg, HB⟩ := hrel
    by_cases hlt : lo < hi
    · have hmn : (lo + hi) / 2 < n := by omega
      obtain ⟨ad, rfl, _⟩ := nm_addr HR.out (by omega)
      obtain ⟨a0, a1, a2⟩ := nm_cells (HR.out.below HB.out) hmn
      have hk := HK.out _ hmn
      obtain ⟨t, ht⟩ : ∃ t, t = ts[(lo + hi) / 2]?.getD noNm := ⟨_, rfl⟩
      rw [← ht] at a0 a1 a2 hk
      clear ht
      have hc := nfind1_any t s wr
      generalize cfN t s.data.toList = r at hc hk
      by_cases hr : r < 0
      · have hk2 := hk.1 hr
        clear hk
        go_wp2_with fail
        refine hc.mono ?_
        rintro e w' ⟨rfl, hb1⟩
        go_wp2_with fail
        go_roundg (hi - ((lo + hi) / 2 + 1))
        case measure => omega
        case rel =>
          exact ⟨(lo + hi) / 2 + 1, hi, by rw [show ((lo : Int) + (hi : Int)) / 2 + 1 = (((lo + hi) / 2 + 1 : Nat) : Int) by omega], rfl, by omega, hKh, hin, Nat.le_refl _, Lib.hid (HB.out.trans (hb1.mono HB.out.size))⟩
      · have hk2 : ¬ (lo + hi) / 2 < K := fun e => hr (hk.2 e)
        clear hk
        go_wp2_with fail
        refine hc.mono ?_
        rintro e w' ⟨rfl, hb1⟩
        go_wp2_with fail
        go_roundg ((lo + hi) / 2 - lo)
        case measure => omega
        case rel =>
          exact ⟨lo, (lo + hi) / 2, rfl, by rw [show ((lo : Int) + (hi : Int)) / 2 = (((lo + hi) / 2 : Nat) : Int) by omega], hlK, by omega, by omega, Nat.le_refl _, Lib.hid (HB.out.trans (hb1.mono HB.out.size))⟩
    · obtain rfl : lo = K := by omega
      by_cases hn2 : lo < n
      · obtain ⟨ad, rfl, _⟩ := nm_addr HR.out (by omega)
        obtain ⟨a0, a1, a2⟩ := nm_cells (HR.out.below HB.out) hn2
        obtain ⟨t, ht⟩ : ∃ t, t = ts[lo]?.getD noNm := ⟨_, rfl⟩
        have HF2 : Hid (R = decide (t.name = s.data.toList)) := Lib.hid (by rw [HF.out, ← ht]; simp [hn2])
        rw [← ht] at a0 a1 a2
        clear ht
        have hc := nfind1_any t s wr
        have hce : cfN t s.data.toList = 0 ↔ t.name = s.data.toList := cmpB_eq _ _
        generalize cfN t s.data.toList = r at hc hce
        by_cases hr : r = 0
        · have HE : Hid (R = true) := Lib.hid (by rw [HF2.out]; exact decide_eq_true (hce.1 hr))
          clear hce
          go_wp2_with fail
          refine hc.mono ?_
          rintro e w' ⟨rfl, hb1⟩
          go_wp2_with fail
          go_ret2
          exact ⟨by rw [HE.out]; first | rfl | (simp [hr]; done) | (simp; done), HB.out.trans (hb1.mono HB.out.size)⟩
        · have HE : Hid (R = false) := Lib.hid (by rw [HF2.out]; exact decide_eq_false fun e => hr (hce.2 e))
          clear hce
          go_wp2_with fail
          refine hc.mono ?_
          rintro e w' ⟨rfl, hb1⟩
          go_wp2_with fail
          go_ret2
          exact ⟨by rw [HE.out]; first | rfl | (simp [hr]; done) | (simp; done), HB.out.trans (hb1.mono HB.out.size)⟩
      · have HE : Hid (R = false) := Lib.hid (by rw [HF.out]; simp [hn2])
        go_wp2_with fail
        go_ret2
        exact ⟨by rw [HE.out]; first | rfl | (simp; done), HB.out⟩

set_option maxRecDepth 100000 in
set_option maxHeartbeats 3200000 in
theorem pFind_any (w : World) (A : Option Addr) (n c : Nat) (ts : List Nm) (s : ByteArray) (h : RdN w w.heap.size A n ts) (hn : (n : Int) ≤ 100000) (hrb : riseB ts = true) :
    Calls Tryd.prog 15 #[.slice A n c, .string s] w fun e w' => e = .returned (.tuple #[nmV ((findI ts s.data.toList).getD noNm), .bool (findI ts s.data.toList).isSome]) ∧ Below w.heap.size w w' := by
  have hri := rises_of hrb
  have HR := Lib.hid h
  have hl := h.1
  have HL := Lib.hid hl
  have HRI := Lib.hid hri
  obtain ⟨R, hR⟩ : ∃ R, R = findI ts s.data.toList := ⟨_, rfl⟩
  obtain ⟨K, hK⟩ : ∃ K, K = rankN ts s.data.toList := ⟨_, rfl⟩
  rw [← hR]
  have HF : Hid (R = if K < n ∧ (ts[K]?.getD noNm).name = s.data.toList then some (ts[K]?.getD noNm) else none) := Lib.hid (by rw [hR, find_rank _ hri, ← hK, hl])
  have HRK := Lib.hid hR
  have HKK := Lib.hid hK
  clear h hl hri hR hK hrb
  obtain ⟨W, hW⟩ : ∃ W, W = w.alloc (.cells #[.string ⟨#[]⟩, .int .i64 0, .int .i64 0] 45) := ⟨_, rfl⟩
  have HBW : Hid (Below w.heap.size w W) := Lib.hid (by rw [hW]; exact (Below.refl _ _).alloc (Nat.le_refl _) _)
  have HKW : Hid (Blk W w.heap.size 45 #[.string ⟨#[]⟩, .int .i64 0, .int .i64 0]) := Lib.hid (by rw [hW]; exact Blk.new _ _ _)
  go_enter Tryd.func15, Tryd.ntmps15
  go_wp2_with fail
  rw [← hW]
  clear hW
  go_wp2_with fail
  refine (nbs_any W A n c ts s ((HR.out.below HBW.out).more HBW.out.size) hn HRI.out).mono ?_
  rintro e w1 ⟨he, hb1⟩
  rw [← HRK.out, ← HKK.out] at he
  subst he
  have HB1 := Lib.hid (HBW.out.trans (hb1.mono HBW.out.size))
  have HK1 := Lib.hid (HKW.out.below hb1 HKW.out.lt)
  clear hb1
  cases hRo : R with
  | none =>
    go_wp2_with (refine wpList_store_row rfl 45 _ _ rfl w.heap.size #[.string ⟨#[]⟩, .int .i64 0, .int .i64 0] rfl rfl _ _ HK1.out nm_size rfl (nm_one _ _ _) ?_)
    (try simp only [Exit.inBlock, Exit.then]); refine bodyPost_ret (results_ct rfl _ _ _ _ _ _ _ rfl (setRow_heap _ _ _ _ _ _ HK1.out) Tryd.underlying45 rfl (by kernel_rfl)) rfl ?_
    exact ⟨by rw [hRo]; rfl, below_setRow HB1.out (Nat.le_refl _) _⟩
  | some t =>
    obtain ⟨hKn, ht⟩ : K < n ∧ t = ts[K]?.getD noNm := by
      have := HF.out
      rw [hRo] at this
      by_cases hc : K < n ∧ (ts[K]?.getD noNm).name = s.data.toList
      · rw [if_pos hc] at this
        injection this with this
        exact ⟨hc.1, this⟩
      · rw [if_neg hc] at this
        cases this
    obtain ⟨ad, rfl, _⟩ := nm_addr HR.out (by omega)
    obtain ⟨a0, a1, a2⟩ := nm_cells (HR.out.below HB1.out) hKn
    rw [← ht] at a0 a1 a2
    clear ht
    go_wp2_with (refine wpList_store_row rfl 45 _ _ rfl w.heap.size #[.string (bs t.name), .int .i64 t.kind, .int .i64 t.num] rfl rfl _ _ HK1.out nm_size rfl (nm_one _ _ _) ?_)
    (try simp only [Exit.inBlock, Exit.then]); refine bodyPost_ret (results_ct rfl _ _ _ _ _ _ _ rfl (setRow_heap _ _ _ _ _ _ HK1.out) Tryd.underlying45 rfl (by kernel_rfl)) rfl ?_
    exact ⟨by rw [hRo]; rfl, below_setRow HB1.out (Nat.le_refl _) _⟩

set_option maxRecDepth 100000 in
set_option maxHeartbeats 3200000 in
theorem pOf_any (w : World) (A : Option Addr) (n c : Nat) (ts : List Nm) (k : Int) (s : ByteArray) (h : RdN w w.heap.size A n ts) (hn : (n : Int) ≤ 100000) (hrb : riseB ts = true) :
    Calls Tryd.prog 17 #[.slice A n c, .int .i64 k, .string s] w fun e w' => e = .returned (.tuple #[.int .i64 (ofI ts k s.data.toList).1, .int .i64 (ofI ts k s.data.toList).2]) ∧ Below w.heap.size w w' := by
  have HR := Lib.hid h
  clear h
  obtain ⟨R, hR⟩ : ∃ R, R = findI ts s.data.toList := ⟨_, rfl⟩
  have HO : Hid (ofI ts k s.data.toList = ofR k R) := Lib.hid (by rw [hR]; rfl)
  have HRR := Lib.hid hR
  clear hR
  rw [HO.out]
  clear HO
  go_enter Tryd.func17, Tryd.ntmps17
  go_wp2_with fail
  refine (pFind_any w A n c ts s HR.out hn hrb).mono ?_
  rintro e w1 ⟨he, hb1⟩
  rw [← HRR.out] at he
  obtain ⟨t, ht⟩ : ∃ t, t = R.getD noNm := ⟨_, rfl⟩
  rw [← ht] at he
  subst he
  have HB1 := Lib.hid hb1
  obtain ⟨W, hW⟩ : ∃ W, W = w1.alloc (.cells #[.string (bs t.name), .int .i64 t.kind, .int .i64 t.num] 45) := ⟨_, rfl⟩
  have HBW : Hid (Below w.heap.size w W) := Lib.hid (by rw [hW]; exact hb1.alloc hb1.size _)
  have hk : Blk W w1.heap.size 45 #[.string (bs t.name), .int .i64 t.kind, .int .i64 t.num] := by rw [hW]; exact Blk.new _ _ _
  have c0 := hk.cell 0
  have c1 := hk.cell 1
  have c2 := hk.cell 2
  simp at c0 c1 c2
  clear hk hb1
  cases R with
  | none =>
    unfold nmV
    go_wp2_with fail
    go_ret2
    exact ⟨rfl, HB1.out.alloc HB1.out.size _⟩
  | some x =>
    obtain rfl : t = x := ht
    by_cases hk : t.kind = k
    · have q : (t.kind != k) = false := by simp [hk]
      have HE : Hid (ofR k (some t) = (t.num, 0)) := Lib.hid (by unfold ofR; simp [hk])
      clear hk
      unfold nmV
      go_wp2_with fail
      rw [← hW]
      clear hW
      go_wp2_with fail
      go_ret2
      exact ⟨by rw [HE.out]; rfl, HBW.out⟩
    · have q : (t.kind != k) = true := by simp [hk]
      have HE : Hid (ofR k (some t) = (0, 12)) := Lib.hid (by unfold ofR; simp [hk])
      clear hk
      unfold nmV
      go_wp2_with fail
      rw [← hW]
      clear hW
      go_wp2_with fail
      go_ret2
      exact ⟨by rw [HE.out]; rfl, HBW.out⟩

set_option maxRecDepth 100000 in
set_option maxHeartbeats 3200000 in
theorem pText_any (w : World) (A : Option Addr) (n c : Nat) (ts : List Nm) (k m : Int) (h : RdN w w.heap.size A n ts) (hn : (n : Int) ≤ 100000) :
    Calls Tryd.prog 19 #[.slice A n c, .int .i64 k, .int .i64 m] w fun e w' => e = .returned (.string (bs (textI ts k m))) ∧ Below w.heap.size w w' := by
  have HR := Lib.hid h
  have hl := h.1
  have HL := Lib.hid hl
  clear h hl
  obtain ⟨R, hR⟩ : ∃ R, R = textI ts k m := ⟨_, rfl⟩
  have HS : Hid (R = textI (ts.drop 0) k m) := Lib.hid (by rw [hR]; rfl)
  rw [← hR]
  clear hR
  go_enter Tryd.func19, Tryd.ntmps19
  go_wp2_with fail
  go_loopw [11] (fun vi wr => ∃ j : Nat, j ≤ n ∧ vi = .int .i64 j ∧ Hid (Below w.heap.size w wr) ∧ Hid (R = textI (ts.drop j) k m)) (fun vi _ => n - (intOf vi).toNat)
  case atStart => exact ⟨0, Nat.zero_le _, rfl, Lib.hid (Below.refl _ _), HS⟩
  case round =>
    clear HS
    obtain ⟨j, hj, rfl, HB, HS⟩ := hrel
    by_cases hlt : j < n
    · obtain ⟨ad, rfl, _⟩ := nm_addr HR.out (by omega)
      obtain ⟨a0, a1, a2⟩ := nm_cells (HR.out.below HB.out) hlt
      have hd := nm_drop (ts := ts) (j := j) (by rw [HL.out]; exact hlt)
      obtain ⟨t, ht⟩ : ∃ t, t = ts[j]?.getD noNm := ⟨_, rfl⟩
      rw [← ht] at a0 a1 a2 hd
      have HN : Hid (R = if t.kind = k ∧ t.num = m then t.name else textI (ts.drop (j + 1)) k m) := Lib.hid (by rw [HS.out, hd]; rfl)
      clear ht hd
      obtain ⟨W, hW⟩ : ∃ W, W = wr.alloc (.cells #[.string (bs t.name), .int .i64 t.kind, .int .i64 t.num] 45) := ⟨_, rfl⟩
      have HBW : Hid (Below w.heap.size w W) := Lib.hid (by rw [hW]; exact HB.out.alloc HB.out.size _)
      have hkb : Blk W wr.heap.size 45 #[.string (bs t.name), .int .i64 t.kind, .int .i64 t.num] := by rw [hW]; exact Blk.new _ _ _
      have c0 := hkb.cell 0
      have c1 := hkb.cell 1
      have c2 := hkb.cell 2
      simp at c0 c1 c2
      clear hkb
      by_cases hk : t.kind = k
      · have q1 : (t.kind == k) = true := by simp [hk]
        by_cases hm : t.num = m
        · have q2 : (t.num == m) = true := by simp [hm]
          have HE : Hid (R = t.name) := Lib.hid (by rw [HN.out, if_pos ⟨hk, hm⟩])
          clear HN HS hk hm
          go_wp2_with fail
          rw [← hW]
          clear hW
          go_wp2_with fail
          go_ret
          exact ⟨by rw [HE.out]; rfl, HBW.out⟩
        · have q2 : (t.num == m) = false := by simp [hm]
          have HE : Hid (R = textI (ts.drop (j + 1)) k m) := Lib.hid (by rw [HN.out, if_neg (fun e => hm e.2)])
          clear HN HS hk hm
          go_wp2_with fail
          rw [← hW]
          clear hW
          go_wp2_with fail
          go_roundw
          case rel => exact ⟨j + 1, by omega, by go_num, HBW, HE⟩
          case measure => simp [intOf]; omega
      · have q1 : (t.kind == k) = false := by simp [hk]
        have HE : Hid (R = textI (ts.drop (j + 1)) k m) := Lib.hid (by rw [HN.out, if_neg (fun e => hk e.1)])
        clear HN HS hk
        go_wp2_with fail
        rw [← hW]
        clear hW
        go_wp2_with fail
        go_roundw
        case rel => exact ⟨j + 1, by omega, by go_num, HBW, HE⟩
        case measure => simp [intOf]; omega
    · have HE : Hid (R = []) := Lib.hid (by rw [HS.out, List.drop_of_length_le (by rw [HL.out]; omega)]; rfl)
      clear HS
      go_wp2_with fail
      go_ret
      exact ⟨by rw [HE.out]; rfl, HB.out⟩

open Go.RowKit Go.Shelf Go.Lib Go.Sort
set_option linter.unusedVariables false

def nsortRen : Go.Shelf.Ren := ⟨fun | 6 => 52 | 15 => 62 | 14 => 61 | 28 => 71 | 29 => 72 | 20 => 63 | 21 => 64 | 22 => 65 | 23 => 66 | 24 => 67 | 25 => 68 | 26 => 69 | 27 => 70 | 46 => 73 | 47 => 74 | 48 => 75 | 49 => 76 | 50 => 77 | 57 => 78 | n => n, fun | 22 => 27 | 24 => 45 | 25 => 68 | 3 => 3 | 39 => 101 | 0 => 0 | 53 => 114 | 55 => 116 | 4 => 4 | 46 => 108 | 45 => 107 | 50 => 87 | 5 => 5 | 9 => 9 | 66 => 117 | 70 => 121 | 76 => 123 | 77 => 124 | n => n, fun | n => n⟩

theorem nsortLays : Go.Proofs.SlLaysF0.n6 Tryd.prog nsortRen := {
  mixed := by kernel_rfl
  f6 := ⟨Tryd.f52.name, by decide, Tryd.func52.trans (congrArg some (by kernel_rfl))⟩
  f14 := ⟨Tryd.f61.name, by decide, Tryd.func61.trans (congrArg some (by kernel_rfl))⟩
  f15 := Tryd.func62.trans (congrArg some (by kernel_rfl))
  f20 := ⟨Tryd.f63.name, by decide, Tryd.func63.trans (congrArg some (by kernel_rfl))⟩
  f21 := ⟨Tryd.f64.name, by decide, Tryd.func64.trans (congrArg some (by kernel_rfl))⟩
  f22 := ⟨Tryd.f65.name, by decide, Tryd.func65.trans (congrArg some (by kernel_rfl))⟩
  f23 := ⟨Tryd.f66.name, by decide, Tryd.func66.trans (congrArg some (by kernel_rfl))⟩
  f24 := ⟨Tryd.f67.name, by decide, Tryd.func67.trans (congrArg some (by kernel_rfl))⟩
  f25 := ⟨Tryd.f68.name, by decide, Tryd.func68.trans (congrArg some (by kernel_rfl))⟩
  f26 := ⟨Tryd.f69.name, by decide, Tryd.func69.trans (congrArg some (by kernel_rfl))⟩
  f27 := ⟨Tryd.f70.name, by decide, Tryd.func70.trans (congrArg some (by kernel_rfl))⟩
  f28 := Tryd.func71.trans (congrArg some (by kernel_rfl))
  f29 := Tryd.func72.trans (congrArg some (by kernel_rfl))
  f46 := ⟨Tryd.f73.name, by decide, Tryd.func73.trans (congrArg some (by kernel_rfl))⟩
  f47 := Tryd.func74.trans (congrArg some (by kernel_rfl))
  f48 := Tryd.func75.trans (congrArg some (by kernel_rfl))
  f49 := ⟨Tryd.f76.name, by decide, Tryd.func76.trans (congrArg some (by kernel_rfl))⟩
  f50 := ⟨Tryd.f77.name, by decide, Tryd.func77.trans (congrArg some (by kernel_rfl))⟩
  f57 := ⟨Tryd.f78.name, by decide, Tryd.func78.trans (congrArg some (by kernel_rfl))⟩
  t0 := Tryd.underlying0
  a0 := Tryd.isAgg0
  z0 := Tryd.sizeOf0
  v0 := Tryd.zeroValue0
  t3 := Tryd.underlying3
  a3 := Tryd.isAgg3
  z3 := Tryd.sizeOf3
  v3 := Tryd.zeroValue3
  t4 := Tryd.underlying4
  a4 := Tryd.isAgg4
  z4 := Tryd.sizeOf4
  v4 := Tryd.zeroValue4
  t5 := Tryd.underlying5
  a5 := Tryd.isAgg5
  z5 := Tryd.sizeOf5
  v5 := Tryd.zeroValue5
  t9 := Tryd.underlying9
  a9 := Tryd.isAgg9
  z9 := Tryd.sizeOf9
  v9 := Tryd.zeroValue9
  t22 := Tryd.underlying27
  a22 := Tryd.isAgg27
  z22 := Tryd.sizeOf27
  v22 := Tryd.zeroValue27
  t25 := Tryd.underlying68
  a25 := Tryd.isAgg68
  z25 := Tryd.sizeOf68
  v25 := Tryd.zeroValue68
  t39 := Tryd.underlying101
  a39 := Tryd.isAgg101
  z39 := Tryd.sizeOf101
  v39 := Tryd.zeroValue101
  t45 := Tryd.underlying107
  a45 := Tryd.isAgg107
  z45 := Tryd.sizeOf107
  v45 := Tryd.zeroValue107
  t46 := Tryd.underlying108
  a46 := Tryd.isAgg108
  z46 := Tryd.sizeOf108
  v46 := Tryd.zeroValue108
  t50 := Tryd.underlying87
  a50 := Tryd.isAgg87
  z50 := Tryd.sizeOf87
  v50 := Tryd.zeroValue87
  t53 := Tryd.underlying114
  a53 := Tryd.isAgg114
  z53 := Tryd.sizeOf114
  v53 := Tryd.zeroValue114
  t55 := Tryd.underlying116
  a55 := Tryd.isAgg116
  z55 := Tryd.sizeOf116
  v55 := Tryd.zeroValue116
  t66 := Tryd.underlying117
  a66 := Tryd.isAgg117
  z66 := Tryd.sizeOf117
  v66 := Tryd.zeroValue117
  t70 := Tryd.underlying121
  a70 := Tryd.isAgg121
  z70 := Tryd.sizeOf121
  v70 := Tryd.zeroValue121
  t76 := Tryd.underlying123
  a76 := Tryd.isAgg123
  z76 := Tryd.sizeOf123
  v76 := Tryd.zeroValue123
  t77 := Tryd.underlying124
  a77 := Tryd.isAgg124
  z77 := Tryd.sizeOf124
  v77 := Tryd.zeroValue124 }

instance : Inhabited Nm := ⟨noNm⟩

/-- two names, by their texts -/
def cfK (x y : Nm) : Int := Lib.compareBytes x.name y.name

theorem ltOf_iff (x y : Nm) : ltOf cfK x y = true ↔ x.name < y.name := by
  unfold ltOf cfK
  rw [decide_eq_true_iff, cmpB_lt]
theorem ltOf_not (x y : Nm) : ltOf cfK x y = false ↔ ¬ x.name < y.name := by
  rw [← ltOf_iff]
  cases ltOf cfK x y <;> simp

theorem swoN : SWO (ltOf cfK) where
  irrefl x := (ltOf_not x x).2 (List.lt_irrefl _)
  trans x y z h1 h2 := (ltOf_iff x z).2 (List.lt_trans ((ltOf_iff x y).1 h1) ((ltOf_iff y z).1 h2))
  ntrans x y z h1 h2 := (ltOf_not x z).2 (by
    have a := (ltOf_not x y).1 h1
    have b := (ltOf_not y z).1 h2
    rw [List.not_lt] at a b ⊢
    exact List.le_trans b a)

set_option maxHeartbeats 1000000 in
theorem nmake1_any (x y : Nm) (W : World) : Calls Tryd.prog 27 #[.agg #[.string (bs x.name), .int .i64 x.kind, .int .i64 x.num], .agg #[.string (bs y.name), .int .i64 y.kind, .int .i64 y.num]] W fun e w' => e = .returned (.int .i64 (cfK x y)) ∧ ∃ q os', w' = grow (W.drewN q) os' := by
  obtain ⟨W1, hW1⟩ : ∃ W1, W1 = W.alloc (.cells #[.string (bs x.name), .int .i64 x.kind, .int .i64 x.num] 45) := ⟨_, rfl⟩
  obtain ⟨W2, hW2⟩ : ∃ W2, W2 = W1.alloc (.cells #[.string (bs y.name), .int .i64 y.kind, .int .i64 y.num] 45) := ⟨_, rfl⟩
  have hs1 : W1.heap.size = W.heap.size + 1 := by rw [hW1]; simp
  have hx1 : Blk W1 W.heap.size 45 #[.string (bs x.name), .int .i64 x.kind, .int .i64 x.num] := by rw [hW1]; exact Blk.new _ _ _
  have hx2 : Blk W2 W.heap.size 45 #[.string (bs x.name), .int .i64 x.kind, .int .i64 x.num] := by rw [hW2]; exact hx1.alloc _
  have hy2 : Blk W2 W1.heap.size 45 #[.string (bs y.name), .int .i64 y.kind, .int .i64 y.num] := by rw [hW2]; exact Blk.new _ _ _
  have hG : Hid (W2 = grow W (#[.cells #[.string (bs x.name), .int .i64 x.kind, .int .i64 x.num] 45] ++ #[.cells #[.string (bs y.name), .int .i64 y.kind, .int .i64 y.num] 45])) := Lib.hid (by rw [hW2, hW1, alloc_eq_grow, alloc_eq_grow, grow_grow])
  have c0 := hx2.cell 0
  have d0 := hy2.cell 0
  rw [hs1] at d0
  simp at c0 d0
  clear hx1 hx2 hy2
  go_enter Tryd.func27, Tryd.ntmps27
  go_wp2_with fail
  rw [← hW1, ← hW2]
  clear hW1 hW2
  go_wp2_with fail
  refine (ncmp_any _ _ _).mono ?_
  rintro e w' ⟨rfl, rfl⟩
  go_wp2_with fail
  go_ret
  exact ⟨by rw [data_bs, data_bs]; rfl, 0, _, hG.out⟩

theorem ncmpLays (blk off size : Nat) (w : World) : CmpLays Tryd.prog 27 #[] nmc 3 cfK blk off size w :=
  fun _ _ _ _ x y => nmake1_any x y _

theorem nmv_get (ts : List Nm) (t : Nat) (h : t < ts.length * 3) : (nmv ts)[t]? = some ((nmc (ts.toArray[t / 3]!))[t % 3]!) := by
  have hj : t / 3 < ts.length := by omega
  obtain ⟨h0, h1, h2⟩ := nmv_at ts (t / 3) hj
  have e : ts.toArray[t / 3]! = ts[t / 3]?.getD noNm := by
    rw [getElem!_pos ts.toArray (t / 3) (by simpa using hj), List.getElem?_eq_getElem hj]
    simp
  rw [e]
  have hm : t = t / 3 * 3 ∨ t = t / 3 * 3 + 1 ∨ t = t / 3 * 3 + 2 := by omega
  rcases hm with hm | hm | hm
  · have hr : t % 3 = 0 := by omega
    rw [hr]
    conv => lhs; rw [hm]
    rw [h0]
    rfl
  · have hr : t % 3 = 1 := by omega
    rw [hr]
    conv => lhs; rw [hm]
    rw [h1]
    rfl
  · have hr : t % 3 = 2 := by omega
    rw [hr]
    conv => lhs; rw [hm]
    rw [h2]
    rfl

theorem nmv_flat (ts : List Nm) : nmv ts = (flatK nmc 3 ts.toArray).toList := by
  apply List.ext_getElem?
  intro t
  by_cases h : t < ts.length * 3
  · rw [nmv_get ts t h, Array.getElem?_toList, Array.getElem?_eq_getElem (by simpa using h)]
    congr 1
    have := get_flatK nmc 3 ts.toArray t (by simpa using h)
    rw [getElem!_pos _ t (by simpa using h)] at this
    exact this.symm
  · rw [List.getElem?_eq_none (by rw [nmv_len]; omega), List.getElem?_eq_none (by simp; omega)]

theorem holdsN {w : World} {base g n c : Nat} {e : TypeId} {ts : List Nm} (h : w.ownsRow base e 3 (.slice (some ⟨g, 0, none⟩) n c) n (nmv ts)) (hn : 0 < n) : HoldsK nmc 3 w g 0 ts.toArray ∧ g < w.heap.size := by
  have hl := ownN_len h
  rcases h.2 with ⟨_, h0⟩ | ⟨g', cap, cur, hv, hb, hg, h1, h2, h3, h4⟩
  · omega
  · injection hv with ha
    injection ha with ha
    injection ha with ha
    subst ha
    refine ⟨fun j hj => ?_, (Array.getElem?_eq_some_iff.1 hg).1⟩
    have hj' : j < n * 3 := by simpa [hl] using hj
    refine ⟨?_, by simp [World.frozen?, hg]⟩
    have h5 : (cur.toList.take (n * 3))[j]? = (nmv ts)[j]? := by rw [h4]
    rw [List.getElem?_take_of_lt hj', nmv_get ts j (by omega), Array.getElem?_toList] at h5
    simp only [World.cell?, hg, Nat.zero_add]
    simp only [Option.isSome_none, Bool.false_eq_true, if_false]
    rw [h5, get_flatK nmc 3 ts.toArray j (by simpa using hj)]
    rfl

theorem ownsRow_sortedN {w : World} {base g n c m : Nat} {e : TypeId} {os : Array Obj} {ts us : List Nm} (hl : us.length = ts.length) (h : w.ownsRow base e 3 (.slice (some ⟨g, 0, none⟩) n c) n (nmv ts)) (hn : 0 < n) :
    (sortWorldK nmc 3 w g 0 m us.toArray os).ownsRow base e 3 (.slice (some ⟨g, 0, none⟩) n c) n (nmv us) ∧ w.grownBy (sortWorldK nmc 3 w g 0 m us.toArray os) (some g) := by
  have hlt := ownN_len h
  rcases h.2 with ⟨_, h0⟩ | ⟨g', cap, cur, hv, hb, hg, h1, h2, h3, h4⟩
  · omega
  · injection hv with ha hb1 hc1
    injection ha with ha
    injection ha with ha
    subst ha
    have hg0 : g < w.heap.size := (Array.getElem?_eq_some_iff.1 hg).1
    constructor
    · refine ⟨by rw [nmv_len]; omega, .inr ⟨g, cap, putCells id 0 (flatK nmc 3 us.toArray) cur, by rw [hc1], hb, ?_, h1, h2, by simp [putCells, h3], ?_⟩⟩
      · unfold sortWorldK putRowK
        rw [heap_grow_old _ _ (by simpa using hg0)]
        simp [putRow, mapBlock, Sort.ahead, Array.getElem?_modify, hg, onCells]
      · have hcs : n * 3 ≤ cur.size := by omega
        apply List.ext_getElem?
        intro j
        by_cases hj : j < n * 3
        · rw [List.getElem?_take_of_lt hj, Array.getElem?_toList, nmv_get us j (by omega)]
          have hj2 : j < us.toArray.size * 3 := by simp; omega
          have hgf := get_flatK nmc 3 us.toArray j hj2
          simp only [putCells, Array.getElem?_mapIdx, Nat.zero_le, true_and, Nat.zero_add, Nat.sub_zero, size_flatK, id]
          rw [Array.getElem?_eq_getElem (by omega), Option.map_some, if_pos hj2, hgf]
        · rw [List.getElem?_take_eq_none (by omega), List.getElem?_eq_none (by rw [nmv_len]; omega)]
    · unfold sortWorldK putRowK
      refine ⟨rfl, rfl, rfl, by simp, fun k hk hne => ?_⟩
      rw [heap_grow_old _ _ (by simpa using hk)]
      have : g ≠ k := fun e => hne (by rw [e])
      simp [putRow, mapBlock, Sort.ahead, Array.getElem?_modify, this]

/-- names that rise, and the same names in another order that rises weakly -/
theorem rises_unique : ∀ (us ts : List Nm), Rises ts → us.Perm ts → us.Pairwise (fun a b => ¬ b.name < a.name) → us = ts := by
  intro us
  induction us with
  | nil => intro ts _ hp _; exact (List.nil_perm.1 hp).symm
  | cons x us ih =>
    intro ts hr hp hs
    obtain ⟨h1, h2⟩ := List.pairwise_cons.1 hs
    cases ts with
    | nil => exact absurd hp (by simp)
    | cons y ts =>
      obtain ⟨r1, r2⟩ := List.pairwise_cons.1 hr
      have hxy : x = y := by
        have hx : x ∈ y :: ts := hp.mem_iff.1 (by simp)
        have hy : y ∈ x :: us := hp.mem_iff.2 (by simp)
        rcases List.mem_cons.1 hx with e | hx
        · exact e
        · rcases List.mem_cons.1 hy with e | hy
          · exact e.symm
          · exact absurd (r1 x hx) (h1 y hy)
      subst hxy
      rw [ih ts r2 ((List.perm_cons _).1 hp) h2]

theorem sorted_list {d d' : Array Nm} {ts : List Nm} (hr : Rises ts) (hd : d.toList.Perm ts) (hp : PermIn 0 d.size d d') (hs : SortedIn (ltOf cfK) 0 d.size d') : d'.toList = ts := by
  obtain ⟨p1, _, p3⟩ := hp
  have e1 : d'.extract 0 d.size = d' := by rw [← p1]; simp
  have e2 : d.extract 0 d.size = d := by simp
  rw [e1, e2] at p3
  refine rises_unique _ _ hr (p3.trans hd) ?_
  rw [List.pairwise_iff_getElem]
  intro i j hi hj hij
  have hi' : i < d'.size := by simpa using hi
  have hj' : j < d'.size := by simpa using hj
  have := hs i j (Nat.zero_le _) hij (by omega)
  rw [ltOf_not, getElem!_pos d' j hj', getElem!_pos d' i hi'] at this
  simpa using this

set_option maxHeartbeats 1000000 in
theorem nsort_any (w : World) (base g n c : Nat) (xs ts : List Nm) (h : w.ownsRow base 45 3 (.slice (some ⟨g, 0, none⟩) n c) n (nmv xs)) (hn : 0 < n) (hn2 : n ≤ 1000000) (hr : Rises ts) (hp : xs.Perm ts) :
    Calls Tryd.prog 52 #[.slice (some ⟨g, 0, none⟩) n c, .func (.func 27) #[] #[]] w fun e w' =>
      e = .returned (.tuple #[]) ∧ w'.ownsRow base 45 3 (.slice (some ⟨g, 0, none⟩) n c) n (nmv ts) ∧ w.grownBy w' (some g) := by
  have eg : ∀ args w, (callFunc 27 args).run Tryd.prog w = .ok (.enter 27 args) w := enters_of Tryd.func27 (by kernel_rfl) rfl
  have hl := ownN_len h
  obtain ⟨hH, hb⟩ := holdsN h hn
  have hcon := AnyQ.slices_SortFunc nsortLays 3 Tryd.isAgg45 Tryd.sizeOf45 nmc (fun _ => rfl) (fun x v hv => by simp [nmc] at hv; rcases hv with rfl | rfl | rfl <;> rfl) cfK swoN 27 #[] g 0 c xs.toArray w eg (ncmpLays g 0 _ w) hH hb (by simp; omega)
  have hsz : xs.toArray.size = n := by simpa using hl
  rw [hsz] at hcon
  refine hcon.mono ?_
  rintro e w' ⟨he, d', m, os, hpi, hso, rfl⟩
  have hd : d'.toList = ts := sorted_list hr (d := xs.toArray) (by simpa using hp) (by rw [hsz]; exact hpi) (by rw [hsz]; exact hso)
  have hd2 : d' = ts.toArray := by rw [← hd]
  subst hd2
  have := ownsRow_sortedN (m := m) (os := os) (us := ts) (by rw [hp.length_eq]) h hn
  exact ⟨he, this.1, this.2⟩

theorem allN_perm {F : List UInt8 → Option Nm} {xs ts : List Nm} (hr : Rises ts) (hF : ∀ s, F s = findI ts s) (h : AllN F xs) : xs.Perm ts := by
  obtain ⟨ps, h1, h2, h3, rfl⟩ := h
  have hn : ∀ p ∈ ps, p.2 ∈ ts ∧ p.2.name = p.1 := fun p hp => findI_some (by rw [← hF]; exact h3 p hp)
  have e1 : (ps.map (·.2)).map (·.name) = ps.map (·.1) := by
    rw [List.map_map]
    exact List.map_congr_left fun p hp => (hn p hp).2
  have n1 : (ps.map (·.2)).Nodup := by
    have : ((ps.map (·.2)).map (·.name)).Nodup := by rw [e1]; exact h1
    exact List.Pairwise.of_map (·.name) (fun a b hab e => hab (by rw [e])) this
  have n2 : ts.Nodup := by
    refine List.Pairwise.imp ?_ hr
    intro a b hab e
    subst e
    exact List.lt_irrefl _ hab
  refine (List.perm_ext_iff_of_nodup n1 n2).2 fun x => ⟨fun hx => ?_, fun hx => ?_⟩
  · obtain ⟨p, hp, rfl⟩ := List.mem_map.1 hx
    exact (hn p hp).1
  · have hf := hr.find hx
    have : x.name ∈ ps.map (·.1) := (h2 _).2 (by rw [hF, hf]; rfl)
    obtain ⟨p, hp, e⟩ := List.mem_map.1 this
    have h4 := h3 p hp
    rw [hF, e, hf] at h4
    injection h4 with h4
    exact List.mem_map.2 ⟨p, hp, h4.symm⟩

set_option maxHeartbeats 1000000 in
theorem ncollect_any (w : World) (Bm b nn : Nat) (F : List UInt8 → Option Nm) (hBm : Bm < w.heap.size) (hm : w.cell? ⟨Bm, 0, none⟩ = some (.map (some b))) (hown : NM w b nn F) (hnn : nn ≤ 1000000) :
    Calls Tryd.prog 51 #[.func (.func 53) #[] #[.pointer (some ⟨Bm, 0, none⟩)]] w fun e w' =>
      ∃ (v : Value) (ss : List Nm), e = .returned v ∧ AllN F ss ∧ w'.ownsRow w.heap.size 45 3 v ss.length (nmv ss) ∧ (v = .slice none 0 0 ↔ ss = []) ∧ Below w.heap.size w w' := by
  refine (callsIn_wide (n := 9)).1 ?_
  exact collectN_in Fence.wide 9 trivial trivial rfl (by omega) _ _ trivial (enters_of Tryd.func53 (by kernel_rfl) rfl) (AllN F) nn (by unfold maxLen; omega) (by omega) w (nvals_gives Fence.wide _ trivial rfl (by omega) Bm b nn F w hBm hm hown)

set_option maxHeartbeats 1000000 in
theorem nvaluesC (mb : Option Nat) (w : World) :
    Calls Tryd.prog 30 #[.map mb] w fun e w' => e = .returned (.func (.func 53) #[] #[.pointer (some ⟨w.heap.size, 0, none⟩)]) ∧ w' = w.alloc (.cells #[.map mb] 59) :=
  (callsIn_wide (n := 9)).1 (nvalues_in Fence.wide 9 trivial rfl mb w)

set_option maxHeartbeats 1000000 in
theorem nsorted_any (w : World) (Bm b nn : Nat) (F : List UInt8 → Option Nm) (ts : List Nm) (hBm : Bm < w.heap.size) (hm : w.cell? ⟨Bm, 0, none⟩ = some (.map (some b))) (hown : NM w b nn F) (hnn : nn ≤ 1000000) (hr : Rises ts) (hF : ∀ s, F s = findI ts s) (hne : 0 < ts.length) (hts : ts.length ≤ 1000000) :
    Calls Tryd.prog 29 #[.func (.func 53) #[] #[.pointer (some ⟨Bm, 0, none⟩)], .func (.func 27) #[] #[]] w fun e w' =>
      ∃ A n c, e = .returned (.slice A n c) ∧ w'.ownsRow w.heap.size 45 3 (.slice A n c) n (nmv ts) ∧ Below w.heap.size w w' := by
  have HC := Lib.hid (ncollect_any w Bm b nn F hBm hm hown hnn)
  have HR := Lib.hid hr
  have HF := Lib.hid hF
  clear hm hown hr hF
  go_enter Tryd.func29, Tryd.ntmps29
  go_wp2_with fail
  refine HC.out.mono ?_
  rintro e w1 ⟨v, ss, rfl, hall, hrow, hnil, hb1⟩
  have hperm := allN_perm HR.out HF.out hall
  have hlen : 0 < ss.length := by rw [hperm.length_eq]; exact hne
  have hss : ss.length ≤ 1000000 := by rw [hperm.length_eq]; exact hts
  obtain ⟨g, cap, rfl, hbg, hlg⟩ := hrow.form hlen
  have HP := Lib.hid hperm
  have HB := Lib.hid hb1
  have HW := Lib.hid hrow
  clear hall hrow hnil hb1 hperm HC
  go_wp2_with fail
  refine (nsort_any w1 _ g _ cap ss ts HW.out hlen hss HR.out HP.out).mono ?_
  rintro e w2 ⟨rfl, hrow2, hg2⟩
  have HB2 : Hid (Below w.heap.size w w2) := Lib.hid (HB.out.grown hg2 HB.out.size (fun k e => by cases e; exact hbg))
  have HW2 := Lib.hid hrow2
  clear hrow2 hg2
  go_wp2_with fail
  go_ret
  exact ⟨_, _, _, rfl, HW2.out, HB2.out⟩

end Go.Proofs.YtgeglhgkibcpfaaDoor
