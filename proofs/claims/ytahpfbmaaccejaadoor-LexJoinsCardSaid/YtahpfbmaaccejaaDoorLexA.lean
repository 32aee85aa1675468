/- Contracts of the references of stage 9: bytes, keywords, places. -/
import Derived.Test.YtahpfbmaaccejaaDoorRows
import Derived.Test.YtahpfbmaaccejaaDoorLexP
import Derived.Test.YtahpfbmaaccejaaDoorToks
import Derived.Deep.QuietTactic
import Derived.BigQuiet
import Derived.Laws.CopyOwn
import Derived.Test.YtahpfbmaaccejaaDoorBlk
namespace Go.Proofs.YtahpfbmaaccejaaDoor
open Go.RowKit

set_option maxRecDepth 100000 in
set_option maxHeartbeats 800000 in
theorem r9digit_any (w : World) (c : UInt8) : Calls Tryd.prog 38 #[.int .u8 (c.toNat : Int)] w fun e w' => e = .returned (.bool (isDg c)) ∧ w = w' := by
  by_cases a : 48 ≤ (c.toNat : Int)
  · by_cases b : (c.toNat : Int) ≤ 57
    · have e : isDg c = true := by simp [isDg]; omega
      rw [e]
      clear e
      go_enter Tryd.func38, Tryd.ntmps38
      go_wp2_with fail
      go_ret
      exact ⟨rfl, rfl⟩
    · have e : isDg c = false := by simp [isDg]; omega
      rw [e]
      clear e
      go_enter Tryd.func38, Tryd.ntmps38
      go_wp2_with fail
      go_ret
      exact ⟨rfl, rfl⟩
  · have e : isDg c = false := by simp [isDg]; omega
    rw [e]
    clear e
    go_enter Tryd.func38, Tryd.ntmps38
    go_wp2_with fail
    go_ret
    exact ⟨rfl, rfl⟩

set_option maxRecDepth 100000 in
set_option maxHeartbeats 800000 in
theorem r9small_any (w : World) (c : UInt8) : Calls Tryd.prog 41 #[.int .u8 (c.toNat : Int)] w fun e w' => e = .returned (.bool (isSm c)) ∧ w = w' := by
  by_cases a : 97 ≤ (c.toNat : Int)
  · by_cases b : (c.toNat : Int) ≤ 122
    · have e : isSm c = true := by simp [isSm]; omega
      rw [e]
      clear e
      go_enter Tryd.func41, Tryd.ntmps41
      go_wp2_with fail
      go_ret
      exact ⟨rfl, rfl⟩
    · have e : isSm c = false := by simp [isSm]; omega
      rw [e]
      clear e
      go_enter Tryd.func41, Tryd.ntmps41
      go_wp2_with fail
      go_ret
      exact ⟨rfl, rfl⟩
  · have e : isSm c = false := by simp [isSm]; omega
    rw [e]
    clear e
    go_enter Tryd.func41, Tryd.ntmps41
    go_wp2_with fail
    go_ret
    exact ⟨rfl, rfl⟩

set_option maxRecDepth 100000 in
set_option maxHeartbeats 800000 in
theorem r9big_any (w : World) (c : UInt8) : Calls Tryd.prog 51 #[.int .u8 (c.toNat : Int)] w fun e w' => e = .returned (.bool (isCp c)) ∧ w = w' := by
  by_cases a : 65 ≤ (c.toNat : Int)
  · by_cases b : (c.toNat : Int) ≤ 90
    · have e : isCp c = true := by simp [isCp]; omega
      rw [e]
      clear e
      go_enter Tryd.func51, Tryd.ntmps51
      go_wp2_with fail
      go_ret
      exact ⟨rfl, rfl⟩
    · have e : isCp c = false := by simp [isCp]; omega
      rw [e]
      clear e
      go_enter Tryd.func51, Tryd.ntmps51
      go_wp2_with fail
      go_ret
      exact ⟨rfl, rfl⟩
  · have e : isCp c = false := by simp [isCp]; omega
    rw [e]
    clear e
    go_enter Tryd.func51, Tryd.ntmps51
    go_wp2_with fail
    go_ret
    exact ⟨rfl, rfl⟩

set_option maxRecDepth 100000 in
set_option maxHeartbeats 800000 in
theorem r9may_any (w : World) (c : UInt8) : Calls Tryd.prog 36 #[.int .u8 (c.toNat : Int)] w fun e w' => e = .returned (.bool (mayB c)) ∧ w = w' := by
  have hc := c.toNat_lt
  by_cases a : 32 ≤ (c.toNat : Int)
  · by_cases b : (c.toNat : Int) ≤ 126
    · have e : mayB c = true := by simp [mayB]; omega
      rw [e]
      clear e
      go_enter Tryd.func36, Tryd.ntmps36
      go_wp2_with fail
      go_ret
      exact ⟨rfl, rfl⟩
    · have e : mayB c = false := by simp [mayB]; omega
      have t0 : ((c.toNat : Int) == 10) = false := by rw [beq_eq_false_iff_ne]; omega
      have t1 : ((c.toNat : Int) == 9) = false := by rw [beq_eq_false_iff_ne]; omega
      rw [e]
      clear e
      go_enter Tryd.func36, Tryd.ntmps36
      go_wp2_with fail
      go_ret
      exact ⟨rfl, rfl⟩
  · by_cases x : (c.toNat : Int) = 10
    · have e : mayB c = true := by simp [mayB]; omega
      have t0 : ((c.toNat : Int) == 10) = true := by simpa using x
      rw [e]
      clear e
      go_enter Tryd.func36, Tryd.ntmps36
      go_wp2_with fail
      go_ret
      exact ⟨rfl, rfl⟩
    · have t0 : ((c.toNat : Int) == 10) = false := by simpa using x
      by_cases y : (c.toNat : Int) = 9
      · have e : mayB c = true := by simp [mayB]; omega
        have t1 : ((c.toNat : Int) == 9) = true := by simpa using y
        clear x
        rw [e]
        clear e
        go_enter Tryd.func36, Tryd.ntmps36
        go_wp2_with fail
        go_ret
        exact ⟨rfl, rfl⟩
      · have e : mayB c = false := by simp [mayB]; omega
        have t1 : ((c.toNat : Int) == 9) = false := by simpa using y
        rw [e]
        clear e
        go_enter Tryd.func36, Tryd.ntmps36
        go_wp2_with fail
        go_ret
        exact ⟨rfl, rfl⟩

theorem ext_one {s : ByteArray} {j : Nat} (h : j < s.size) : s.extract j (j + 1) = ⟨#[s[j]]⟩ := by
  apply ByteArray.ext
  rw [ByteArray.data_extract]
  apply Array.ext
  · simp
    show min (j + 1) s.size - j = 1
    omega
  · intro i h1 h2
    simp at h2
    subst h2
    simp
    rfl

theorem bs_app9 (a b : List UInt8) : bs a ++ bs b = bs (a ++ b) := by
  apply ByteArray.ext
  rw [ByteArray.data_append]
  simp [bs]

theorem add_bs9 (a b : List UInt8) (ha : a.length ≤ 200000000) (hb : b.length ≤ 200000000) : ∀ w : World, (Op.stringOp .add (bs a) (bs b)).run Tryd.prog w = .ok (.string (bs (a ++ b))) w := fun w => by
  rw [← bs_app9]
  have h1 : (bs a).size = a.length := bs_size a
  have h2 : (bs b).size = b.length := bs_size b
  simp [Op.stringOp, h1, h2]
  omega

theorem drop_at {s : ByteArray} {j : Nat} (h : j < s.size) : s.data.toList.drop j = s[j] :: s.data.toList.drop (j + 1) := by
  have hl : j < s.data.toList.length := by rw [Array.length_toList]; exact h
  rw [List.drop_eq_getElem_cons hl]
  rfl

theorem bs_snoc9 (t : List UInt8) (b : UInt8) : bs t ++ ⟨#[b]⟩ = bs (t ++ [b]) := by
  apply ByteArray.ext
  rw [ByteArray.data_append]
  simp [bs]

set_option maxRecDepth 100000 in
set_option maxHeartbeats 3200000 in
theorem r9holds_any (w : World) (row s : ByteArray) (hr : (row.size : Int) ≤ 1000) (h0 : 1 ≤ row.size) :
    Calls Tryd.prog 19 #[.string row, .string s] w fun e w' => e = .returned (.tuple #[.int .i64 (holdL row.data.toList s.data.toList).1, .bool (holdL row.data.toList s.data.toList).2]) ∧ w = w' := by
  obtain ⟨R, hR⟩ : ∃ R, R = holdL row.data.toList s.data.toList := ⟨_, rfl⟩
  have HR : Hid (R = holdF s.data.toList (row.data.toList.drop 1) [] 0) := Lib.hid hR
  rw [← hR]
  clear hR
  have hl : row.data.toList.length = row.size := by rw [Array.length_toList]; rfl
  have HL := Lib.hid hl
  clear hl
  go_enter Tryd.func19, Tryd.ntmps19
  go_wp2_with fail
  go_loopw [6, 7, 8] (fun vn vo vi wr => ∃ (n i : Nat) (one : List UInt8), 1 ≤ i ∧ i ≤ row.size ∧ n ≤ i ∧ vn = .int .i64 n ∧ vo = .string (bs one) ∧ vi = .int .i64 i ∧ one.length ≤ i ∧ Hid (w = wr) ∧ Hid (R = holdF s.data.toList (row.data.toList.drop i) one n)) (fun _ _ vi _ => row.size - (intOf vi).toNat)
  case atStart => exact ⟨0, 1, [], Nat.le_refl _, h0, Nat.zero_le _, rfl, rfl, rfl, Nat.zero_le _, Lib.hid rfl, HR⟩
  case round =>
    obtain ⟨n, i, one, hi0, hi, hn, rfl, rfl, rfl, hol, HW, HF⟩ := hrel
    have hw := HW.out
    subst hw
    clear HW
    by_cases hlt : i < row.size
    · have HD : Hid (R = holdF s.data.toList (row[i] :: row.data.toList.drop (i + 1)) one n) := Lib.hid (by rw [HF.out, drop_at hlt])
      have HX := Lib.hid (ext_one hlt)
      have hc := row[i].toNat_lt
      obtain ⟨c, hcc⟩ : ∃ c, c = row[i] := ⟨_, rfl⟩
      by_cases h32 : (row[i].toNat : Int) = 32
      · have t0 : ((row[i].toNat : Int) != 32) = false := by rw [bne_eq_false_iff_eq]; exact h32
        by_cases he : one = s.data.toList
        · have HE : Hid (R = (n, true)) := Lib.hid (by
            rw [HD.out]
            show (if (row[i].toNat : Int) ≠ 32 then _ else if one = s.data.toList then (n, true) else _) = _
            rw [if_neg (by omega), if_pos he])
          have hs : bs one = s := by rw [he, bs_data]
          rw [hs]
          have t1 : (s.toList == s.toList) = true := by simp
          clear he hs h32
          go_wp2_with fail
          go_ret2
          rw [HE.out]
          exact ⟨rfl, rfl⟩
        · have HE : Hid (R = holdF s.data.toList (row.data.toList.drop (i + 1)) [] (n + 1)) := Lib.hid (by
            rw [HD.out]
            show (if (row[i].toNat : Int) ≠ 32 then _ else if one = s.data.toList then _ else holdF s.data.toList (row.data.toList.drop (i + 1)) [] (n + 1)) = _
            rw [if_neg (by omega), if_neg he])
          have t1 : ((bs one).toList == s.toList) = false := by
            rw [ByteArray.toList_eq, ByteArray.toList_eq, data_bs, beq_eq_false_iff_ne]
            exact he
          clear he h32
          go_wp2_with fail
          go_roundw
          case rel => exact ⟨n + 1, i + 1, [], by omega, by omega, by omega, by go_num, rfl, by go_num, Nat.zero_le _, Lib.hid (by trivial), HE⟩
          case measure => simp [intOf]; omega
      · have t0 : ((row[i].toNat : Int) != 32) = true := by rw [bne_iff_ne]; exact h32
        have HE : Hid (R = holdF s.data.toList (row.data.toList.drop (i + 1)) (one ++ [row[i]]) n) := Lib.hid (by
          rw [HD.out]
          show (if (row[i].toNat : Int) ≠ 32 then holdF s.data.toList (row.data.toList.drop (i + 1)) (one ++ [row[i]]) n else _) = _
          rw [if_pos h32])
        have hadd : ∀ W : World, (Op.stringOp .add (bs one) (row.extract i (i + 1))).run Tryd.prog W = .ok (.string (bs (one ++ [row[i]]))) W := fun W => by
          rw [HX.out]
          exact add_bs9 one [row[i]] (by omega) (by simp) W
        clear h32
        go_wp2_with fail
        go_roundw
        case rel => exact ⟨n, i + 1, one ++ [row[i]], by omega, by omega, by omega, rfl, rfl, by go_num, by rw [List.length_append, List.length_singleton]; omega, Lib.hid (by trivial), HE⟩
        case measure => simp [intOf]; omega
    · have HE : Hid (R = (0, false)) := Lib.hid (by rw [HF.out, List.drop_of_length_le (by rw [HL.out]; omega)]; rfl)
      go_wp2_with fail
      go_ret2
      rw [HE.out]
      exact ⟨rfl, rfl⟩

theorem take_at {s : ByteArray} {j : Nat} (h : j < s.size) : s.data.toList.take (j + 1) = s.data.toList.take j ++ [s[j]] := by
  have hl : j < s.data.toList.length := by rw [Array.length_toList]; exact h
  rw [List.take_succ_eq_append_getElem hl]
  rfl

set_option maxRecDepth 100000 in
set_option maxHeartbeats 3200000 in
theorem r9at_any (w : World) (s : ByteArray) (i : Nat) (hi : i ≤ s.size) (hs : (s.size : Int) ≤ 100000) :
    Calls Tryd.prog 27 #[.string s, .int .i64 i] w fun e w' => e = .returned (.tuple #[.int .i64 ((posL (s.data.toList.take i)).1 : Nat), .int .i64 ((posL (s.data.toList.take i)).2 : Nat)]) ∧ w = w' := by
  go_enter Tryd.func27, Tryd.ntmps27
  go_wp2_with fail
  go_loopw [6, 7, 8] (fun vl vc vk wr => ∃ (l c k : Nat), k ≤ i ∧ vl = .int .i64 l ∧ vc = .int .i64 c ∧ vk = .int .i64 k ∧ Hid (w = wr) ∧ 1 ≤ c ∧ l + c ≤ k + 2 ∧ Hid (posL (s.data.toList.take k) = (l, c))) (fun _ _ vk _ => i - (intOf vk).toNat)
  case atStart => exact ⟨1, 1, 0, Nat.zero_le _, rfl, rfl, rfl, Lib.hid rfl, Nat.le_refl _, Nat.le_refl _, Lib.hid rfl⟩
  case round =>
    obtain ⟨l, c, k, hk, rfl, rfl, rfl, HW, hc1, hlc, HP⟩ := hrel
    have hw := HW.out
    subst hw
    clear HW
    by_cases hlt : k < i
    · have hlt2 : k < s.size := by omega
      have HT := Lib.hid (take_at hlt2)
      by_cases h10 : (s[k].toNat : Int) = 10
      · have HP2 : Hid (posL (s.data.toList.take (k + 1)) = (l + 1, 1)) := Lib.hid (by rw [HT.out, posL_snoc, HP.out]; unfold stepP; rw [if_pos h10])
        have t0 : ((s[k].toNat : Int) == 10) = true := by simpa using h10
        clear h10
        go_wp2_with fail
        go_roundw
        case rel => exact ⟨l + 1, 1, k + 1, by omega, by go_num, rfl, by go_num, Lib.hid (by trivial), by omega, by omega, HP2⟩
        case measure => simp [intOf]; omega
      · have HP2 : Hid (posL (s.data.toList.take (k + 1)) = (l, c + 1)) := Lib.hid (by rw [HT.out, posL_snoc, HP.out]; unfold stepP; rw [if_neg h10])
        have t0 : ((s[k].toNat : Int) == 10) = false := by simpa using h10
        clear h10
        go_wp2_with fail
        go_roundw
        case rel => exact ⟨l, c + 1, k + 1, by omega, rfl, by go_num, by go_num, Lib.hid (by trivial), by omega, by omega, HP2⟩
        case measure => simp [intOf]; omega
    · obtain rfl : k = i := by omega
      go_wp2_with fail
      go_ret2
      rw [HP.out]
      exact ⟨rfl, rfl⟩

theorem fail_size : (Tryd.prog.info? 28).map (·.size) = some 3 := by kernel_rfl

theorem three_ints (a b c : Int) : (#[Value.int .i64 a, .int .i64 b, .int .i64 c]).all (·.oneCell') = true := by simp [Value.oneCell']

set_option maxRecDepth 100000 in
set_option maxHeartbeats 3200000 in
theorem r9fail_any (w : World) (s : ByteArray) (i : Nat) (x : Int) (hi : i ≤ s.size) (hs : (s.size : Int) ≤ 100000) :
    Calls Tryd.prog 26 #[.string s, .int .i64 i, .int .i64 x] w fun e w' => e = .returned (.agg #[.int .i64 (failAt s.data.toList i x).1, .int .i64 (failAt s.data.toList i x).2.1, .int .i64 (failAt s.data.toList i x).2.2]) ∧ Below w.heap.size w w' := by
  obtain ⟨W, hW⟩ : ∃ W, W = w.alloc (.cells #[.int .i64 0, .int .i64 0, .int .i64 0] 28) := ⟨_, rfl⟩
  have HK : Hid (Blk W w.heap.size 28 #[.int .i64 0, .int .i64 0, .int .i64 0]) := Lib.hid (by rw [hW]; exact Blk.new _ _ _)
  have HB : Hid (Below w.heap.size w W) := Lib.hid (by rw [hW]; exact (Below.refl _ _).alloc (Nat.le_refl _) _)
  go_enter Tryd.func26, Tryd.ntmps26
  go_wp2_with fail
  rw [← hW]
  clear hW
  refine (r9at_any W s i hi hs).mono ?_
  rintro e w1 ⟨rfl, rfl⟩
  obtain ⟨⟨l, c⟩, hp⟩ : ∃ p, p = posL (s.data.toList.take i) := ⟨_, rfl⟩
  have HP : Hid (failAt s.data.toList i x = (x, (l : Int), (c : Int))) := Lib.hid (by unfold failAt; rw [← hp])
  rw [← hp]
  clear hp
  go_wp2_with (refine wpList_store_row rfl 28 _ _ rfl w.heap.size #[.int .i64 x, .int .i64 l, .int .i64 c] rfl rfl _ _ HK.out fail_size rfl (three_ints _ _ _) ?_)
  (try simp only [Exit.inBlock, Exit.then]); refine bodyPost_ret (results_cell_row rfl _ _ _ _ _ _ _ rfl (setRow_heap _ _ _ _ _ _ HK.out) Tryd.underlying28 rfl (by kernel_rfl)) rfl ?_
  rw [HP.out]
  exact ⟨rfl, below_setRow HB.out (Nat.le_refl _) _⟩

end Go.Proofs.YtahpfbmaaccejaaDoor
