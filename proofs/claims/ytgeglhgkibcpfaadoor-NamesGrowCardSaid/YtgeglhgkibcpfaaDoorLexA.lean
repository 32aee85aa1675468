/- Contracts of the references of stage 9: bytes, keywords, places. -/
import Derived.Test.YtgeglhgkibcpfaaDoorRows
import Derived.Test.YtgeglhgkibcpfaaDoorLexP
import Derived.Test.YtgeglhgkibcpfaaDoorToks
import Derived.Deep.QuietTactic
import Derived.BigQuiet
import Derived.Laws.CopyOwn
import Derived.Test.YtgeglhgkibcpfaaDoorBlk
namespace Go.Proofs.YtgeglhgkibcpfaaDoor
open Go.RowKit

theorem ext_one {s : ByteArray} {j : Nat} (h : j < s.size) : s.extract j (j + 1) = ⟨#[s[j]]⟩ := by
  apply ByteArray.ext
  rw [ByteArray.data_extract]
  apply Array.ext
  · simp
    show min (j + 1) s.size - j = 1
    omega
  · intro i h1 h2
    simp at h2
    subst h2
    simp
    rfl

theorem bs_app9 (a b : List UInt8) : bs a ++ bs b = bs (a ++ b) := by
  apply ByteArray.ext
  rw [ByteArray.data_append]
  simp [bs]

theorem add_bs9 (a b : List UInt8) (ha : a.length ≤ 200000000) (hb : b.length ≤ 200000000) : ∀ w : World, (Op.stringOp .add (bs a) (bs b)).run Tryd.prog w = .ok (.string (bs (a ++ b))) w := fun w => by
  rw [← bs_app9]
  have h1 : (bs a).size = a.length := bs_size a
  have h2 : (bs b).size = b.length := bs_size b
  simp [Op.stringOp, h1, h2]
  omega

theorem drop_at {s : ByteArray} {j : Nat} (h : j < s.size) : s.data.toList.drop j = s[j] :: s.data.toList.drop (j + 1) := by
  have hl : j < s.data.toList.length := by rw [Array.length_toList]; exact h
  rw [List.drop_eq_getElem_cons hl]
  rfl

theorem bs_snoc9 (t : List UInt8) (b : UInt8) : bs t ++ ⟨#[b]⟩ = bs (t ++ [b]) := by
  apply ByteArray.ext
  rw [ByteArray.data_append]
  simp [bs]

set_option maxRecDepth 100000 in
set_option maxHeartbeats 3200000 in
theorem r9holds_any (w : World) (row s : ByteArray) (hr : (row.size : Int) ≤ 1000) (h0 : 1 ≤ row.size) :
    Calls Tryd.prog 56 #[.string row, .string s] w fun e w' => e = .returned (.tuple #[.int .i64 (holdL row.data.toList s.data.toList).1, .bool (holdL row.data.toList s.data.toList).2]) ∧ w = w' := by
  obtain ⟨R, hR⟩ : ∃ R, R = holdL row.data.toList s.data.toList := ⟨_, rfl⟩
  have HR : Hid (R = holdF s.data.toList (row.data.toList.drop 1) [] 0) := Lib.hid hR
  rw [← hR]
  clear hR
  have hl : row.data.toList.length = row.size := by rw [Array.length_toList]; rfl
  have HL := Lib.hid hl
  clear hl
  go_enter Tryd.func56, Tryd.ntmps56
  go_wp2_with fail
  go_loopw [6, 7, 8] (fun vn vo vi wr => ∃ (n i : Nat) (one : List UInt8), 1 ≤ i ∧ i ≤ row.size ∧ n ≤ i ∧ vn = .int .i64 n ∧ vo = .string (bs one) ∧ vi = .int .i64 i ∧ one.length ≤ i ∧ Hid (w = wr) ∧ Hid (R = holdF s.data.toList (row.data.toList.drop i) one n)) (fun _ _ vi _ => row.size - (intOf vi).toNat)
  case atStart => exact ⟨0, 1, [], Nat.le_refl _, h0, Nat.zero_le _, rfl, rfl, rfl, Nat.zero_le _, Lib.hid rfl, HR⟩
  case round =>
    obtain ⟨n, i, one, hi0, hi, hn, rfl, rfl, rfl, hol, HW, HF⟩ := hrel
    have hw := HW.out
    subst hw
    clear HW
    by_cases hlt : i < row.size
    · have HD : Hid (R = holdF s.data.toList (row[i] :: row.data.toList.drop (i + 1)) one n) := Lib.hid (by rw [HF.out, drop_at hlt])
      have HX := Lib.hid (ext_one hlt)
      have hc := row[i].toNat_lt
      obtain ⟨c, hcc⟩ : ∃ c, c = row[i] := ⟨_, rfl⟩
      by_cases h32 : (row[i].toNat : Int) = 32
      · have t0 : ((row[i].toNat : Int) != 32) = false := by rw [bne_eq_false_iff_eq]; exact h32
        by_cases he : one = s.data.toList
        · have HE : Hid (R = (n, true)) := Lib.hid (by
            rw [HD.out]
            show (if (row[i].toNat : Int) ≠ 32 then _ else if one = s.data.toList then (n, true) else _) = _
            rw [if_neg (by omega), if_pos he])
          have hs : bs one = s := by rw [he, bs_data]
          rw [hs]
          have t1 : (s.toList == s.toList) = true := by simp
          clear he hs h32
          go_wp2_with fail
          go_ret2
          rw [HE.out]
          exact ⟨rfl, rfl⟩
        · have HE : Hid (R = holdF s.data.toList (row.data.toList.drop (i + 1)) [] (n + 1)) := Lib.hid (by
            rw [HD.out]
            show (if (row[i].toNat : Int) ≠ 32 then _ else if one = s.data.toList then _ else holdF s.data.toList (row.data.toList.drop (i + 1)) [] (n + 1)) = _
            rw [if_neg (by omega), if_neg he])
          have t1 : ((bs one).toList == s.toList) = false := by
            rw [ByteArray.toList_eq, ByteArray.toList_eq, data_bs, beq_eq_false_iff_ne]
            exact he
          clear he h32
          go_wp2_with fail
          go_roundw
          case rel => exact ⟨n + 1, i + 1, [], by omega, by omega, by omega, by go_num, rfl, by go_num, Nat.zero_le _, Lib.hid (by trivial), HE⟩
          case measure => simp [intOf]; omega
      · have t0 : ((row[i].toNat : Int) != 32) = true := by rw [bne_iff_ne]; exact h32
        have HE : Hid (R = holdF s.data.toList (row.data.toList.drop (i + 1)) (one ++ [row[i]]) n) := Lib.hid (by
          rw [HD.out]
          show (if (row[i].toNat : Int) ≠ 32 then holdF s.data.toList (row.data.toList.drop (i + 1)) (one ++ [row[i]]) n else _) = _
          rw [if_pos h32])
        have hadd : ∀ W : World, (Op.stringOp .add (bs one) (row.extract i (i + 1))).run Tryd.prog W = .ok (.string (bs (one ++ [row[i]]))) W := fun W => by
          rw [HX.out]
          exact add_bs9 one [row[i]] (by omega) (by simp) W
        clear h32
        go_wp2_with fail
        go_roundw
        case rel => exact ⟨n, i + 1, one ++ [row[i]], by omega, by omega, by omega, rfl, rfl, by go_num, by rw [List.length_append, List.length_singleton]; omega, Lib.hid (by trivial), HE⟩
        case measure => simp [intOf]; omega
    · have HE : Hid (R = (0, false)) := Lib.hid (by rw [HF.out, List.drop_of_length_le (by rw [HL.out]; omega)]; rfl)
      go_wp2_with fail
      go_ret2
      rw [HE.out]
      exact ⟨rfl, rfl⟩

theorem take_at {s : ByteArray} {j : Nat} (h : j < s.size) : s.data.toList.take (j + 1) = s.data.toList.take j ++ [s[j]] := by
  have hl : j < s.data.toList.length := by rw [Array.length_toList]; exact h
  rw [List.take_succ_eq_append_getElem hl]
  rfl

theorem three_ints (a b c : Int) : (#[Value.int .i64 a, .int .i64 b, .int .i64 c]).all (·.oneCell') = true := by simp [Value.oneCell']

end Go.Proofs.YtgeglhgkibcpfaaDoor
