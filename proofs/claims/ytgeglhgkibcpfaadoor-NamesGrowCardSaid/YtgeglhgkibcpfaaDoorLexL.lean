/- Contracts of the program's Dir, Key. -/
import Derived.Test.YtgeglhgkibcpfaaDoorLexG
import Derived.Test.YtgeglhgkibcpfaaDoorLexQ
import Derived.Lib.Strings
import Derived.Laws.EntriesVeiled
namespace Go.Proofs.YtgeglhgkibcpfaaDoor
open Go.RowKit

def keyWs : List (List UInt8) := [[115, 116, 111, 114, 121],
  [98, 121],
  [114, 101, 108, 101, 97, 115, 101],
  [109, 97, 120],
  [115, 116, 97, 114, 116],
  [102, 108, 97, 103],
  [112, 114, 111, 112],
  [103, 108, 111, 98, 97, 108],
  [114, 111, 111, 109],
  [116, 104, 105, 110, 103],
  [105, 110],
  [118, 101, 114, 98],
  [109, 101, 116, 97],
  [111, 110],
  [98, 101, 102, 111, 114, 101],
  [97, 102, 116, 101, 114],
  [105, 102],
  [102, 117, 110, 99],
  [100, 97, 101, 109, 111, 110],
  [116, 101, 120, 116],
  [119, 111, 114, 100, 115],
  [97, 100, 106, 115],
  [105, 115],
  [101, 120, 105, 116],
  [116, 111],
  [101, 108, 115, 101],
  [115, 97, 121],
  [108, 101, 116],
  [115, 101, 116],
  [117, 110, 115, 101, 116],
  [109, 111, 118, 101],
  [114, 101, 109, 111, 118, 101],
  [119, 104, 105, 108, 101],
  [101, 97, 99, 104],
  [114, 101, 116, 117, 114, 110],
  [115, 116, 111, 112],
  [119, 105, 110],
  [108, 111, 115, 101],
  [97, 119, 97, 114, 100],
  [104, 97, 108, 116],
  [116, 114, 97, 118, 101, 108],
  [108, 111, 111, 107],
  [108, 105, 115, 116],
  [111, 114],
  [97, 110, 100],
  [110, 111, 116],
  [104, 97, 115],
  [112, 97, 114, 101, 110, 116],
  [99, 104, 105, 108, 100],
  [110, 101, 120, 116],
  [114, 97, 110, 100, 111, 109],
  [116, 105, 116, 108, 101],
  [104, 101, 114, 101],
  [112, 108, 97, 121, 101, 114],
  [110, 111, 117, 110],
  [115, 101, 99, 111, 110, 100],
  [110, 117, 109, 98, 101, 114],
  [115, 99, 111, 114, 101],
  [97, 110, 121],
  [109, 97, 110, 121],
  [100, 105, 114]]
def dirWs : List (List UInt8) := [[110, 111, 114, 116, 104], [115, 111, 117, 116, 104], [101, 97, 115, 116], [119, 101, 115, 116], [110, 111, 114, 116, 104, 101, 97, 115, 116], [110, 111, 114, 116, 104, 119, 101, 115, 116], [115, 111, 117, 116, 104, 101, 97, 115, 116], [115, 111, 117, 116, 104, 119, 101, 115, 116], [117, 112], [100, 111, 119, 110], [105, 110], [111, 117, 116]]

theorem keys_row : keysL.drop 1 = rowOf keyWs := by kernel_rfl
theorem dirs_row : dirsL.drop 1 = rowOf dirWs := by kernel_rfl
theorem keys_plain : ∀ w ∈ keyWs, ∀ c ∈ w, (c.toNat : Int) ≠ 32 := by decide
theorem dirs_plain : ∀ w ∈ dirWs, ∀ c ∈ w, (c.toNat : Int) ≠ 32 := by decide

theorem holdL_keys (s : List UInt8) : holdL keysL s = idxF s keyWs 0 := by unfold holdL; rw [keys_row, holdF_row s _ _ keys_plain]
theorem holdL_dirs (s : List UInt8) : holdL dirsL s = idxF s dirWs 0 := by unfold holdL; rw [dirs_row, holdF_row s _ _ dirs_plain]

theorem toList_of {s : ByteArray} {L : List UInt8} (h : (s.toList == L) = true) : s.data.toList = L := by rw [← Lib.toList_data]; exact beq_iff_eq.mp h
theorem toList_ne {s : ByteArray} {L : List UInt8} (h : (s.toList == L) = false) : s.data.toList ≠ L := fun e => by
  rw [Lib.toList_data, e, beq_self_eq_true] at h
  cases h

theorem dir_is {s : ByteArray} {L : List UInt8} {k : Int} (h : (s.toList == L) = true) (hk : k = (dirN L : Nat)) : Ending.returned (.int .i64 k) = .returned (.int .i64 (dirN s.data.toList : Nat)) := by rw [toList_of h, hk]

theorem dirN_zero {s : List UInt8} (h : s ∉ dirWs) : dirN s = 0 := by unfold dirN; rw [holdL_dirs, idxF_no s dirWs 0 h]; rfl
theorem dirN_pos {s : List UInt8} : dirN s ≠ 0 ↔ (holdL dirsL s).2 = true := by
  unfold dirN
  constructor
  · intro h
    by_cases h2 : (holdL dirsL s).2 = true
    · exact h2
    · rw [if_neg h2] at h; exact absurd rfl h
  · intro h
    rw [if_pos h]
    exact Nat.succ_ne_zero _

theorem key_is {s : ByteArray} {L : List UInt8} (h : (s.toList == L) = true) (hk : keyB L = true) : Ending.returned (.bool true) = .returned (.bool (keyB s.data.toList)) := by rw [toList_of h, hk]
theorem keyB_no {s : List UInt8} (h : s ∉ keyWs) : keyB s = decide (dirN s ≠ 0) := by
  unfold keyB
  rw [holdL_keys, idxF_no s keyWs 0 h, Bool.false_or]
  by_cases h2 : (holdL dirsL s).2 = true
  · rw [h2]; exact (decide_eq_true (dirN_pos.mpr h2)).symm
  · rw [Bool.not_eq_true] at h2
    rw [h2]
    exact (decide_eq_false (fun h3 => by rw [dirN_pos, h2] at h3; cases h3)).symm

theorem dir_not {s : ByteArray} (h0 : (s.toList == [110, 111, 114, 116, 104]) = false) (h1 : (s.toList == [115, 111, 117, 116, 104]) = false) (h2 : (s.toList == [101, 97, 115, 116]) = false) (h3 : (s.toList == [119, 101, 115, 116]) = false) (h4 : (s.toList == [110, 111, 114, 116, 104, 101, 97, 115, 116]) = false) (h5 : (s.toList == [110, 111, 114, 116, 104, 119, 101, 115, 116]) = false) (h6 : (s.toList == [115, 111, 117, 116, 104, 101, 97, 115, 116]) = false) (h7 : (s.toList == [115, 111, 117, 116, 104, 119, 101, 115, 116]) = false) (h8 : (s.toList == [117, 112]) = false) (h9 : (s.toList == [100, 111, 119, 110]) = false) (h10 : (s.toList == [105, 110]) = false) (h11 : (s.toList == [111, 117, 116]) = false) : s.data.toList ∉ dirWs := by
  intro h
  rcases (by simpa [dirWs] using h : s.data.toList = [110, 111, 114, 116, 104] ∨ s.data.toList = [115, 111, 117, 116, 104] ∨ s.data.toList = [101, 97, 115, 116] ∨ s.data.toList = [119, 101, 115, 116] ∨ s.data.toList = [110, 111, 114, 116, 104, 101, 97, 115, 116] ∨ s.data.toList = [110, 111, 114, 116, 104, 119, 101, 115, 116] ∨ s.data.toList = [115, 111, 117, 116, 104, 101, 97, 115, 116] ∨ s.data.toList = [115, 111, 117, 116, 104, 119, 101, 115, 116] ∨ s.data.toList = [117, 112] ∨ s.data.toList = [100, 111, 119, 110] ∨ s.data.toList = [105, 110] ∨ s.data.toList = [111, 117, 116]) with h | h | h | h | h | h | h | h | h | h | h | h
  · exact toList_ne h0 h
  · exact toList_ne h1 h
  · exact toList_ne h2 h
  · exact toList_ne h3 h
  · exact toList_ne h4 h
  · exact toList_ne h5 h
  · exact toList_ne h6 h
  · exact toList_ne h7 h
  · exact toList_ne h8 h
  · exact toList_ne h9 h
  · exact toList_ne h10 h
  · exact toList_ne h11 h

theorem key_not {s : ByteArray} (h0 : (s.toList == [115, 116, 111, 114, 121]) = false) (h1 : (s.toList == [98, 121]) = false) (h2 : (s.toList == [114, 101, 108, 101, 97, 115, 101]) = false) (h3 : (s.toList == [109, 97, 120]) = false) (h4 : (s.toList == [115, 116, 97, 114, 116]) = false) (h5 : (s.toList == [102, 108, 97, 103]) = false) (h6 : (s.toList == [112, 114, 111, 112]) = false) (h7 : (s.toList == [103, 108, 111, 98, 97, 108]) = false) (h8 : (s.toList == [114, 111, 111, 109]) = false) (h9 : (s.toList == [116, 104, 105, 110, 103]) = false) (h10 : (s.toList == [105, 110]) = false) (h11 : (s.toList == [118, 101, 114, 98]) = false) (h12 : (s.toList == [109, 101, 116, 97]) = false) (h13 : (s.toList == [111, 110]) = false) (h14 : (s.toList == [98, 101, 102, 111, 114, 101]) = false) (h15 : (s.toList == [97, 102, 116, 101, 114]) = false) (h16 : (s.toList == [105, 102]) = false) (h17 : (s.toList == [102, 117, 110, 99]) = false) (h18 : (s.toList == [100, 97, 101, 109, 111, 110]) = false) (h19 : (s.toList == [116, 101, 120, 116]) = false) (h20 : (s.toList == [119, 111, 114, 100, 115]) = false) (h21 : (s.toList == [97, 100, 106, 115]) = false) (h22 : (s.toList == [105, 115]) = false) (h23 : (s.toList == [101, 120, 105, 116]) = false) (h24 : (s.toList == [116, 111]) = false) (h25 : (s.toList == [101, 108, 115, 101]) = false) (h26 : (s.toList == [115, 97, 121]) = false) (h27 : (s.toList == [108, 101, 116]) = false) (h28 : (s.toList == [115, 101, 116]) = false) (h29 : (s.toList == [117, 110, 115, 101, 116]) = false) (h30 : (s.toList == [109, 111, 118, 101]) = false) (h31 : (s.toList == [114, 101, 109, 111, 118, 101]) = false) (h32 : (s.toList == [119, 104, 105, 108, 101]) = false) (h33 : (s.toList == [101, 97, 99, 104]) = false) (h34 : (s.toList == [114, 101, 116, 117, 114, 110]) = false) (h35 : (s.toList == [115, 116, 111, 112]) = false) (h36 : (s.toList == [119, 105, 110]) = false) (h37 : (s.toList == [108, 111, 115, 101]) = false) (h38 : (s.toList == [97, 119, 97, 114, 100]) = false) (h39 : (s.toList == [104, 97, 108, 116]) = false) (h40 : (s.toList == [116, 114, 97, 118, 101, 108]) = false) (h41 : (s.toList == [108, 111, 111, 107]) = false) (h42 : (s.toList == [108, 105, 115, 116]) = false) (h43 : (s.toList == [111, 114]) = false) (h44 : (s.toList == [97, 110, 100]) = false) (h45 : (s.toList == [110, 111, 116]) = false) (h46 : (s.toList == [104, 97, 115]) = false) (h47 : (s.toList == [112, 97, 114, 101, 110, 116]) = false) (h48 : (s.toList == [99, 104, 105, 108, 100]) = false) (h49 : (s.toList == [110, 101, 120, 116]) = false) (h50 : (s.toList == [114, 97, 110, 100, 111, 109]) = false) (h51 : (s.toList == [116, 105, 116, 108, 101]) = false) (h52 : (s.toList == [104, 101, 114, 101]) = false) (h53 : (s.toList == [112, 108, 97, 121, 101, 114]) = false) (h54 : (s.toList == [110, 111, 117, 110]) = false) (h55 : (s.toList == [115, 101, 99, 111, 110, 100]) = false) (h56 : (s.toList == [110, 117, 109, 98, 101, 114]) = false) (h57 : (s.toList == [115, 99, 111, 114, 101]) = false) (h58 : (s.toList == [97, 110, 121]) = false) (h59 : (s.toList == [109, 97, 110, 121]) = false) (h60 : (s.toList == [100, 105, 114]) = false) : s.data.toList ∉ keyWs := by
  intro h
  rcases (by simpa [keyWs] using h : s.data.toList = [115, 116, 111, 114, 121] ∨ s.data.toList = [98, 121] ∨ s.data.toList = [114, 101, 108, 101, 97, 115, 101] ∨ s.data.toList = [109, 97, 120] ∨ s.data.toList = [115, 116, 97, 114, 116] ∨ s.data.toList = [102, 108, 97, 103] ∨ s.data.toList = [112, 114, 111, 112] ∨ s.data.toList = [103, 108, 111, 98, 97, 108] ∨ s.data.toList = [114, 111, 111, 109] ∨ s.data.toList = [116, 104, 105, 110, 103] ∨ s.data.toList = [105, 110] ∨ s.data.toList = [118, 101, 114, 98] ∨ s.data.toList = [109, 101, 116, 97] ∨ s.data.toList = [111, 110] ∨ s.data.toList = [98, 101, 102, 111, 114, 101] ∨ s.data.toList = [97, 102, 116, 101, 114] ∨ s.data.toList = [105, 102] ∨ s.data.toList = [102, 117, 110, 99] ∨ s.data.toList = [100, 97, 101, 109, 111, 110] ∨ s.data.toList = [116, 101, 120, 116] ∨ s.data.toList = [119, 111, 114, 100, 115] ∨ s.data.toList = [97, 100, 106, 115] ∨ s.data.toList = [105, 115] ∨ s.data.toList = [101, 120, 105, 116] ∨ s.data.toList = [116, 111] ∨ s.data.toList = [101, 108, 115, 101] ∨ s.data.toList = [115, 97, 121] ∨ s.data.toList = [108, 101, 116] ∨ s.data.toList = [115, 101, 116] ∨ s.data.toList = [117, 110, 115, 101, 116] ∨ s.data.toList = [109, 111, 118, 101] ∨ s.data.toList = [114, 101, 109, 111, 118, 101] ∨ s.data.toList = [119, 104, 105, 108, 101] ∨ s.data.toList = [101, 97, 99, 104] ∨ s.data.toList = [114, 101, 116, 117, 114, 110] ∨ s.data.toList = [115, 116, 111, 112] ∨ s.data.toList = [119, 105, 110] ∨ s.data.toList = [108, 111, 115, 101] ∨ s.data.toList = [97, 119, 97, 114, 100] ∨ s.data.toList = [104, 97, 108, 116] ∨ s.data.toList = [116, 114, 97, 118, 101, 108] ∨ s.data.toList = [108, 111, 111, 107] ∨ s.data.toList = [108, 105, 115, 116] ∨ s.data.toList = [111, 114] ∨ s.data.toList = [97, 110, 100] ∨ s.data.toList = [110, 111, 116] ∨ s.data.toList = [104, 97, 115] ∨ s.data.toList = [112, 97, 114, 101, 110, 116] ∨ s.data.toList = [99, 104, 105, 108, 100] ∨ s.data.toList = [110, 101, 120, 116] ∨ s.data.toList = [114, 97, 110, 100, 111, 109] ∨ s.data.toList = [116, 105, 116, 108, 101] ∨ s.data.toList = [104, 101, 114, 101] ∨ s.data.toList = [112, 108, 97, 121, 101, 114] ∨ s.data.toList = [110, 111, 117, 110] ∨ s.data.toList = [115, 101, 99, 111, 110, 100] ∨ s.data.toList = [110, 117, 109, 98, 101, 114] ∨ s.data.toList = [115, 99, 111, 114, 101] ∨ s.data.toList = [97, 110, 121] ∨ s.data.toList = [109, 97, 110, 121] ∨ s.data.toList = [100, 105, 114]) with h | h | h | h | h | h | h | h | h | h | h | h | h | h | h | h | h | h | h | h | h | h | h | h | h | h | h | h | h | h | h | h | h | h | h | h | h | h | h | h | h | h | h | h | h | h | h | h | h | h | h | h | h | h | h | h | h | h | h | h | h
  · exact toList_ne h0 h
  · exact toList_ne h1 h
  · exact toList_ne h2 h
  · exact toList_ne h3 h
  · exact toList_ne h4 h
  · exact toList_ne h5 h
  · exact toList_ne h6 h
  · exact toList_ne h7 h
  · exact toList_ne h8 h
  · exact toList_ne h9 h
  · exact toList_ne h10 h
  · exact toList_ne h11 h
  · exact toList_ne h12 h
  · exact toList_ne h13 h
  · exact toList_ne h14 h
  · exact toList_ne h15 h
  · exact toList_ne h16 h
  · exact toList_ne h17 h
  · exact toList_ne h18 h
  · exact toList_ne h19 h
  · exact toList_ne h20 h
  · exact toList_ne h21 h
  · exact toList_ne h22 h
  · exact toList_ne h23 h
  · exact toList_ne h24 h
  · exact toList_ne h25 h
  · exact toList_ne h26 h
  · exact toList_ne h27 h
  · exact toList_ne h28 h
  · exact toList_ne h29 h
  · exact toList_ne h30 h
  · exact toList_ne h31 h
  · exact toList_ne h32 h
  · exact toList_ne h33 h
  · exact toList_ne h34 h
  · exact toList_ne h35 h
  · exact toList_ne h36 h
  · exact toList_ne h37 h
  · exact toList_ne h38 h
  · exact toList_ne h39 h
  · exact toList_ne h40 h
  · exact toList_ne h41 h
  · exact toList_ne h42 h
  · exact toList_ne h43 h
  · exact toList_ne h44 h
  · exact toList_ne h45 h
  · exact toList_ne h46 h
  · exact toList_ne h47 h
  · exact toList_ne h48 h
  · exact toList_ne h49 h
  · exact toList_ne h50 h
  · exact toList_ne h51 h
  · exact toList_ne h52 h
  · exact toList_ne h53 h
  · exact toList_ne h54 h
  · exact toList_ne h55 h
  · exact toList_ne h56 h
  · exact toList_ne h57 h
  · exact toList_ne h58 h
  · exact toList_ne h59 h
  · exact toList_ne h60 h

set_option maxRecDepth 100000 in
set_option maxHeartbeats 3200000 in
theorem Dir_any (w : World) (s : ByteArray) : Calls Tryd.prog 41 #[.string s] w fun e w' => e = .returned (.int .i64 (dirN s.data.toList : Nat)) ∧ Below w.heap.size w w' := by
  obtain ⟨D, hD⟩ : ∃ D, D = dirN s.data.toList := ⟨_, rfl⟩
  have HD := Lib.hid hD
  rw [← hD]
  clear hD
  go_enter Tryd.func41, Tryd.ntmps41
  go_wp2_with fail
  · go_ret
    rw [HD.out]
    exact ⟨dir_is (L := [110, 111, 114, 116, 104]) (by assumption) (by kernel_rfl), Below.refl _ _⟩
  · go_ret
    rw [HD.out]
    exact ⟨dir_is (L := [115, 111, 117, 116, 104]) (by assumption) (by kernel_rfl), Below.refl _ _⟩
  · go_ret
    rw [HD.out]
    exact ⟨dir_is (L := [101, 97, 115, 116]) (by assumption) (by kernel_rfl), Below.refl _ _⟩
  · go_ret
    rw [HD.out]
    exact ⟨dir_is (L := [119, 101, 115, 116]) (by assumption) (by kernel_rfl), Below.refl _ _⟩
  · go_ret
    rw [HD.out]
    exact ⟨dir_is (L := [110, 111, 114, 116, 104, 101, 97, 115, 116]) (by assumption) (by kernel_rfl), Below.refl _ _⟩
  · go_ret
    rw [HD.out]
    exact ⟨dir_is (L := [110, 111, 114, 116, 104, 119, 101, 115, 116]) (by assumption) (by kernel_rfl), Below.refl _ _⟩
  · go_ret
    rw [HD.out]
    exact ⟨dir_is (L := [115, 111, 117, 116, 104, 101, 97, 115, 116]) (by assumption) (by kernel_rfl), Below.refl _ _⟩
  · go_ret
    rw [HD.out]
    exact ⟨dir_is (L := [115, 111, 117, 116, 104, 119, 101, 115, 116]) (by assumption) (by kernel_rfl), Below.refl _ _⟩
  · go_ret
    rw [HD.out]
    exact ⟨dir_is (L := [117, 112]) (by assumption) (by kernel_rfl), Below.refl _ _⟩
  · go_ret
    rw [HD.out]
    exact ⟨dir_is (L := [100, 111, 119, 110]) (by assumption) (by kernel_rfl), Below.refl _ _⟩
  · go_ret
    rw [HD.out]
    exact ⟨dir_is (L := [105, 110]) (by assumption) (by kernel_rfl), Below.refl _ _⟩
  · go_ret
    rw [HD.out]
    exact ⟨dir_is (L := [111, 117, 116]) (by assumption) (by kernel_rfl), Below.refl _ _⟩
  · go_ret
    rw [HD.out, dirN_zero (dir_not (by assumption) (by assumption) (by assumption) (by assumption) (by assumption) (by assumption) (by assumption) (by assumption) (by assumption) (by assumption) (by assumption) (by assumption))]
    exact ⟨rfl, Below.refl _ _⟩

theorem ba_of {s : ByteArray} {L : List UInt8} (h : s.data.toList = L) : s = ⟨L.toArray⟩ := by
  apply ByteArray.ext
  apply Array.ext'
  rw [h]

set_option maxRecDepth 100000 in
set_option maxHeartbeats 3200000 in
theorem kw_story (w : World) : Calls Tryd.prog 22 #[.string ⟨#[115, 116, 111, 114, 121]⟩] w fun e w' => e = .returned (.bool true) ∧ w = w' := by
  go_enter Tryd.func22, Tryd.ntmps22
  go_wp2_with fail
  go_ret
  exact ⟨rfl, rfl⟩

set_option maxRecDepth 100000 in
set_option maxHeartbeats 3200000 in
theorem kw_by (w : World) : Calls Tryd.prog 22 #[.string ⟨#[98, 121]⟩] w fun e w' => e = .returned (.bool true) ∧ w = w' := by
  go_enter Tryd.func22, Tryd.ntmps22
  go_wp2_with fail
  go_ret
  exact ⟨rfl, rfl⟩

set_option maxRecDepth 100000 in
set_option maxHeartbeats 3200000 in
theorem kw_release (w : World) : Calls Tryd.prog 22 #[.string ⟨#[114, 101, 108, 101, 97, 115, 101]⟩] w fun e w' => e = .returned (.bool true) ∧ w = w' := by
  go_enter Tryd.func22, Tryd.ntmps22
  go_wp2_with fail
  go_ret
  exact ⟨rfl, rfl⟩

set_option maxRecDepth 100000 in
set_option maxHeartbeats 3200000 in
theorem kw_max (w : World) : Calls Tryd.prog 22 #[.string ⟨#[109, 97, 120]⟩] w fun e w' => e = .returned (.bool true) ∧ w = w' := by
  go_enter Tryd.func22, Tryd.ntmps22
  go_wp2_with fail
  go_ret
  exact ⟨rfl, rfl⟩

set_option maxRecDepth 100000 in
set_option maxHeartbeats 3200000 in
theorem kw_start (w : World) : Calls Tryd.prog 22 #[.string ⟨#[115, 116, 97, 114, 116]⟩] w fun e w' => e = .returned (.bool true) ∧ w = w' := by
  go_enter Tryd.func22, Tryd.ntmps22
  go_wp2_with fail
  go_ret
  exact ⟨rfl, rfl⟩

set_option maxRecDepth 100000 in
set_option maxHeartbeats 3200000 in
theorem kw_flag (w : World) : Calls Tryd.prog 22 #[.string ⟨#[102, 108, 97, 103]⟩] w fun e w' => e = .returned (.bool true) ∧ w = w' := by
  go_enter Tryd.func22, Tryd.ntmps22
  go_wp2_with fail
  go_ret
  exact ⟨rfl, rfl⟩

set_option maxRecDepth 100000 in
set_option maxHeartbeats 3200000 in
theorem kw_prop (w : World) : Calls Tryd.prog 22 #[.string ⟨#[112, 114, 111, 112]⟩] w fun e w' => e = .returned (.bool true) ∧ w = w' := by
  go_enter Tryd.func22, Tryd.ntmps22
  go_wp2_with fail
  go_ret
  exact ⟨rfl, rfl⟩

set_option maxRecDepth 100000 in
set_option maxHeartbeats 3200000 in
theorem kw_global (w : World) : Calls Tryd.prog 22 #[.string ⟨#[103, 108, 111, 98, 97, 108]⟩] w fun e w' => e = .returned (.bool true) ∧ w = w' := by
  go_enter Tryd.func22, Tryd.ntmps22
  go_wp2_with fail
  go_ret
  exact ⟨rfl, rfl⟩

set_option maxRecDepth 100000 in
set_option maxHeartbeats 3200000 in
theorem kw_room (w : World) : Calls Tryd.prog 22 #[.string ⟨#[114, 111, 111, 109]⟩] w fun e w' => e = .returned (.bool true) ∧ w = w' := by
  go_enter Tryd.func22, Tryd.ntmps22
  go_wp2_with fail
  go_ret
  exact ⟨rfl, rfl⟩

set_option maxRecDepth 100000 in
set_option maxHeartbeats 3200000 in
theorem kw_thing (w : World) : Calls Tryd.prog 22 #[.string ⟨#[116, 104, 105, 110, 103]⟩] w fun e w' => e = .returned (.bool true) ∧ w = w' := by
  go_enter Tryd.func22, Tryd.ntmps22
  go_wp2_with fail
  go_ret
  exact ⟨rfl, rfl⟩

set_option maxRecDepth 100000 in
set_option maxHeartbeats 3200000 in
theorem kw_in (w : World) : Calls Tryd.prog 22 #[.string ⟨#[105, 110]⟩] w fun e w' => e = .returned (.bool true) ∧ w = w' := by
  go_enter Tryd.func22, Tryd.ntmps22
  go_wp2_with fail
  go_ret
  exact ⟨rfl, rfl⟩

set_option maxRecDepth 100000 in
set_option maxHeartbeats 3200000 in
theorem kw_verb (w : World) : Calls Tryd.prog 22 #[.string ⟨#[118, 101, 114, 98]⟩] w fun e w' => e = .returned (.bool true) ∧ w = w' := by
  go_enter Tryd.func22, Tryd.ntmps22
  go_wp2_with fail
  go_ret
  exact ⟨rfl, rfl⟩

set_option maxRecDepth 100000 in
set_option maxHeartbeats 3200000 in
theorem kw_meta (w : World) : Calls Tryd.prog 22 #[.string ⟨#[109, 101, 116, 97]⟩] w fun e w' => e = .returned (.bool true) ∧ w = w' := by
  go_enter Tryd.func22, Tryd.ntmps22
  go_wp2_with fail
  go_ret
  exact ⟨rfl, rfl⟩

set_option maxRecDepth 100000 in
set_option maxHeartbeats 3200000 in
theorem kw_on (w : World) : Calls Tryd.prog 22 #[.string ⟨#[111, 110]⟩] w fun e w' => e = .returned (.bool true) ∧ w = w' := by
  go_enter Tryd.func22, Tryd.ntmps22
  go_wp2_with fail
  go_ret
  exact ⟨rfl, rfl⟩

set_option maxRecDepth 100000 in
set_option maxHeartbeats 3200000 in
theorem kw_before (w : World) : Calls Tryd.prog 22 #[.string ⟨#[98, 101, 102, 111, 114, 101]⟩] w fun e w' => e = .returned (.bool true) ∧ w = w' := by
  go_enter Tryd.func22, Tryd.ntmps22
  go_wp2_with fail
  go_ret
  exact ⟨rfl, rfl⟩

set_option maxRecDepth 100000 in
set_option maxHeartbeats 3200000 in
theorem kw_after (w : World) : Calls Tryd.prog 22 #[.string ⟨#[97, 102, 116, 101, 114]⟩] w fun e w' => e = .returned (.bool true) ∧ w = w' := by
  go_enter Tryd.func22, Tryd.ntmps22
  go_wp2_with fail
  go_ret
  exact ⟨rfl, rfl⟩

set_option maxRecDepth 100000 in
set_option maxHeartbeats 3200000 in
theorem kw_if (w : World) : Calls Tryd.prog 22 #[.string ⟨#[105, 102]⟩] w fun e w' => e = .returned (.bool true) ∧ w = w' := by
  go_enter Tryd.func22, Tryd.ntmps22
  go_wp2_with fail
  go_ret
  exact ⟨rfl, rfl⟩

set_option maxRecDepth 100000 in
set_option maxHeartbeats 3200000 in
theorem kw_func (w : World) : Calls Tryd.prog 22 #[.string ⟨#[102, 117, 110, 99]⟩] w fun e w' => e = .returned (.bool true) ∧ w = w' := by
  go_enter Tryd.func22, Tryd.ntmps22
  go_wp2_with fail
  go_ret
  exact ⟨rfl, rfl⟩

set_option maxRecDepth 100000 in
set_option maxHeartbeats 3200000 in
theorem kw_daemon (w : World) : Calls Tryd.prog 22 #[.string ⟨#[100, 97, 101, 109, 111, 110]⟩] w fun e w' => e = .returned (.bool true) ∧ w = w' := by
  go_enter Tryd.func22, Tryd.ntmps22
  go_wp2_with fail
  go_ret
  exact ⟨rfl, rfl⟩

set_option maxRecDepth 100000 in
set_option maxHeartbeats 3200000 in
theorem kw_text (w : World) : Calls Tryd.prog 22 #[.string ⟨#[116, 101, 120, 116]⟩] w fun e w' => e = .returned (.bool true) ∧ w = w' := by
  go_enter Tryd.func22, Tryd.ntmps22
  go_wp2_with fail
  go_ret
  exact ⟨rfl, rfl⟩

set_option maxRecDepth 100000 in
set_option maxHeartbeats 3200000 in
theorem kw_words (w : World) : Calls Tryd.prog 22 #[.string ⟨#[119, 111, 114, 100, 115]⟩] w fun e w' => e = .returned (.bool true) ∧ w = w' := by
  go_enter Tryd.func22, Tryd.ntmps22
  go_wp2_with fail
  go_ret
  exact ⟨rfl, rfl⟩

set_option maxRecDepth 100000 in
set_option maxHeartbeats 3200000 in
theorem kw_adjs (w : World) : Calls Tryd.prog 22 #[.string ⟨#[97, 100, 106, 115]⟩] w fun e w' => e = .returned (.bool true) ∧ w = w' := by
  go_enter Tryd.func22, Tryd.ntmps22
  go_wp2_with fail
  go_ret
  exact ⟨rfl, rfl⟩

set_option maxRecDepth 100000 in
set_option maxHeartbeats 3200000 in
theorem kw_is (w : World) : Calls Tryd.prog 22 #[.string ⟨#[105, 115]⟩] w fun e w' => e = .returned (.bool true) ∧ w = w' := by
  go_enter Tryd.func22, Tryd.ntmps22
  go_wp2_with fail
  go_ret
  exact ⟨rfl, rfl⟩

set_option maxRecDepth 100000 in
set_option maxHeartbeats 3200000 in
theorem kw_exit (w : World) : Calls Tryd.prog 22 #[.string ⟨#[101, 120, 105, 116]⟩] w fun e w' => e = .returned (.bool true) ∧ w = w' := by
  go_enter Tryd.func22, Tryd.ntmps22
  go_wp2_with fail
  go_ret
  exact ⟨rfl, rfl⟩

set_option maxRecDepth 100000 in
set_option maxHeartbeats 3200000 in
theorem kw_to (w : World) : Calls Tryd.prog 22 #[.string ⟨#[116, 111]⟩] w fun e w' => e = .returned (.bool true) ∧ w = w' := by
  go_enter Tryd.func22, Tryd.ntmps22
  go_wp2_with fail
  go_ret
  exact ⟨rfl, rfl⟩

set_option maxRecDepth 100000 in
set_option maxHeartbeats 3200000 in
theorem kw_else (w : World) : Calls Tryd.prog 22 #[.string ⟨#[101, 108, 115, 101]⟩] w fun e w' => e = .returned (.bool true) ∧ w = w' := by
  go_enter Tryd.func22, Tryd.ntmps22
  go_wp2_with fail
  go_ret
  exact ⟨rfl, rfl⟩

set_option maxRecDepth 100000 in
set_option maxHeartbeats 3200000 in
theorem kw_say (w : World) : Calls Tryd.prog 22 #[.string ⟨#[115, 97, 121]⟩] w fun e w' => e = .returned (.bool true) ∧ w = w' := by
  go_enter Tryd.func22, Tryd.ntmps22
  go_wp2_with fail
  go_ret
  exact ⟨rfl, rfl⟩

set_option maxRecDepth 100000 in
set_option maxHeartbeats 3200000 in
theorem kw_let (w : World) : Calls Tryd.prog 22 #[.string ⟨#[108, 101, 116]⟩] w fun e w' => e = .returned (.bool true) ∧ w = w' := by
  go_enter Tryd.func22, Tryd.ntmps22
  go_wp2_with fail
  go_ret
  exact ⟨rfl, rfl⟩

set_option maxRecDepth 100000 in
set_option maxHeartbeats 3200000 in
theorem kw_set (w : World) : Calls Tryd.prog 22 #[.string ⟨#[115, 101, 116]⟩] w fun e w' => e = .returned (.bool true) ∧ w = w' := by
  go_enter Tryd.func22, Tryd.ntmps22
  go_wp2_with fail
  go_ret
  exact ⟨rfl, rfl⟩

set_option maxRecDepth 100000 in
set_option maxHeartbeats 3200000 in
theorem kw_unset (w : World) : Calls Tryd.prog 22 #[.string ⟨#[117, 110, 115, 101, 116]⟩] w fun e w' => e = .returned (.bool true) ∧ w = w' := by
  go_enter Tryd.func22, Tryd.ntmps22
  go_wp2_with fail
  go_ret
  exact ⟨rfl, rfl⟩

set_option maxRecDepth 100000 in
set_option maxHeartbeats 3200000 in
theorem kw_move (w : World) : Calls Tryd.prog 22 #[.string ⟨#[109, 111, 118, 101]⟩] w fun e w' => e = .returned (.bool true) ∧ w = w' := by
  go_enter Tryd.func22, Tryd.ntmps22
  go_wp2_with fail
  go_ret
  exact ⟨rfl, rfl⟩

set_option maxRecDepth 100000 in
set_option maxHeartbeats 3200000 in
theorem kw_remove (w : World) : Calls Tryd.prog 22 #[.string ⟨#[114, 101, 109, 111, 118, 101]⟩] w fun e w' => e = .returned (.bool true) ∧ w = w' := by
  go_enter Tryd.func22, Tryd.ntmps22
  go_wp2_with fail
  go_ret
  exact ⟨rfl, rfl⟩

set_option maxRecDepth 100000 in
set_option maxHeartbeats 3200000 in
theorem kw_while (w : World) : Calls Tryd.prog 22 #[.string ⟨#[119, 104, 105, 108, 101]⟩] w fun e w' => e = .returned (.bool true) ∧ w = w' := by
  go_enter Tryd.func22, Tryd.ntmps22
  go_wp2_with fail
  go_ret
  exact ⟨rfl, rfl⟩

set_option maxRecDepth 100000 in
set_option maxHeartbeats 3200000 in
theorem kw_each (w : World) : Calls Tryd.prog 22 #[.string ⟨#[101, 97, 99, 104]⟩] w fun e w' => e = .returned (.bool true) ∧ w = w' := by
  go_enter Tryd.func22, Tryd.ntmps22
  go_wp2_with fail
  go_ret
  exact ⟨rfl, rfl⟩

set_option maxRecDepth 100000 in
set_option maxHeartbeats 3200000 in
theorem kw_return (w : World) : Calls Tryd.prog 22 #[.string ⟨#[114, 101, 116, 117, 114, 110]⟩] w fun e w' => e = .returned (.bool true) ∧ w = w' := by
  go_enter Tryd.func22, Tryd.ntmps22
  go_wp2_with fail
  go_ret
  exact ⟨rfl, rfl⟩

set_option maxRecDepth 100000 in
set_option maxHeartbeats 3200000 in
theorem kw_stop (w : World) : Calls Tryd.prog 22 #[.string ⟨#[115, 116, 111, 112]⟩] w fun e w' => e = .returned (.bool true) ∧ w = w' := by
  go_enter Tryd.func22, Tryd.ntmps22
  go_wp2_with fail
  go_ret
  exact ⟨rfl, rfl⟩

set_option maxRecDepth 100000 in
set_option maxHeartbeats 3200000 in
theorem kw_win (w : World) : Calls Tryd.prog 22 #[.string ⟨#[119, 105, 110]⟩] w fun e w' => e = .returned (.bool true) ∧ w = w' := by
  go_enter Tryd.func22, Tryd.ntmps22
  go_wp2_with fail
  go_ret
  exact ⟨rfl, rfl⟩

set_option maxRecDepth 100000 in
set_option maxHeartbeats 3200000 in
theorem kw_lose (w : World) : Calls Tryd.prog 22 #[.string ⟨#[108, 111, 115, 101]⟩] w fun e w' => e = .returned (.bool true) ∧ w = w' := by
  go_enter Tryd.func22, Tryd.ntmps22
  go_wp2_with fail
  go_ret
  exact ⟨rfl, rfl⟩

set_option maxRecDepth 100000 in
set_option maxHeartbeats 3200000 in
theorem kw_award (w : World) : Calls Tryd.prog 22 #[.string ⟨#[97, 119, 97, 114, 100]⟩] w fun e w' => e = .returned (.bool true) ∧ w = w' := by
  go_enter Tryd.func22, Tryd.ntmps22
  go_wp2_with fail
  go_ret
  exact ⟨rfl, rfl⟩

set_option maxRecDepth 100000 in
set_option maxHeartbeats 3200000 in
theorem kw_halt (w : World) : Calls Tryd.prog 22 #[.string ⟨#[104, 97, 108, 116]⟩] w fun e w' => e = .returned (.bool true) ∧ w = w' := by
  go_enter Tryd.func22, Tryd.ntmps22
  go_wp2_with fail
  go_ret
  exact ⟨rfl, rfl⟩

set_option maxRecDepth 100000 in
set_option maxHeartbeats 3200000 in
theorem kw_travel (w : World) : Calls Tryd.prog 22 #[.string ⟨#[116, 114, 97, 118, 101, 108]⟩] w fun e w' => e = .returned (.bool true) ∧ w = w' := by
  go_enter Tryd.func22, Tryd.ntmps22
  go_wp2_with fail
  go_ret
  exact ⟨rfl, rfl⟩

set_option maxRecDepth 100000 in
set_option maxHeartbeats 3200000 in
theorem kw_look (w : World) : Calls Tryd.prog 22 #[.string ⟨#[108, 111, 111, 107]⟩] w fun e w' => e = .returned (.bool true) ∧ w = w' := by
  go_enter Tryd.func22, Tryd.ntmps22
  go_wp2_with fail
  go_ret
  exact ⟨rfl, rfl⟩

set_option maxRecDepth 100000 in
set_option maxHeartbeats 3200000 in
theorem kw_list (w : World) : Calls Tryd.prog 22 #[.string ⟨#[108, 105, 115, 116]⟩] w fun e w' => e = .returned (.bool true) ∧ w = w' := by
  go_enter Tryd.func22, Tryd.ntmps22
  go_wp2_with fail
  go_ret
  exact ⟨rfl, rfl⟩

set_option maxRecDepth 100000 in
set_option maxHeartbeats 3200000 in
theorem kw_or (w : World) : Calls Tryd.prog 22 #[.string ⟨#[111, 114]⟩] w fun e w' => e = .returned (.bool true) ∧ w = w' := by
  go_enter Tryd.func22, Tryd.ntmps22
  go_wp2_with fail
  go_ret
  exact ⟨rfl, rfl⟩

set_option maxRecDepth 100000 in
set_option maxHeartbeats 3200000 in
theorem kw_and (w : World) : Calls Tryd.prog 22 #[.string ⟨#[97, 110, 100]⟩] w fun e w' => e = .returned (.bool true) ∧ w = w' := by
  go_enter Tryd.func22, Tryd.ntmps22
  go_wp2_with fail
  go_ret
  exact ⟨rfl, rfl⟩

set_option maxRecDepth 100000 in
set_option maxHeartbeats 3200000 in
theorem kw_not (w : World) : Calls Tryd.prog 22 #[.string ⟨#[110, 111, 116]⟩] w fun e w' => e = .returned (.bool true) ∧ w = w' := by
  go_enter Tryd.func22, Tryd.ntmps22
  go_wp2_with fail
  go_ret
  exact ⟨rfl, rfl⟩

set_option maxRecDepth 100000 in
set_option maxHeartbeats 3200000 in
theorem kw_has (w : World) : Calls Tryd.prog 22 #[.string ⟨#[104, 97, 115]⟩] w fun e w' => e = .returned (.bool true) ∧ w = w' := by
  go_enter Tryd.func22, Tryd.ntmps22
  go_wp2_with fail
  go_ret
  exact ⟨rfl, rfl⟩

set_option maxRecDepth 100000 in
set_option maxHeartbeats 3200000 in
theorem kw_parent (w : World) : Calls Tryd.prog 22 #[.string ⟨#[112, 97, 114, 101, 110, 116]⟩] w fun e w' => e = .returned (.bool true) ∧ w = w' := by
  go_enter Tryd.func22, Tryd.ntmps22
  go_wp2_with fail
  go_ret
  exact ⟨rfl, rfl⟩

set_option maxRecDepth 100000 in
set_option maxHeartbeats 3200000 in
theorem kw_child (w : World) : Calls Tryd.prog 22 #[.string ⟨#[99, 104, 105, 108, 100]⟩] w fun e w' => e = .returned (.bool true) ∧ w = w' := by
  go_enter Tryd.func22, Tryd.ntmps22
  go_wp2_with fail
  go_ret
  exact ⟨rfl, rfl⟩

set_option maxRecDepth 100000 in
set_option maxHeartbeats 3200000 in
theorem kw_next (w : World) : Calls Tryd.prog 22 #[.string ⟨#[110, 101, 120, 116]⟩] w fun e w' => e = .returned (.bool true) ∧ w = w' := by
  go_enter Tryd.func22, Tryd.ntmps22
  go_wp2_with fail
  go_ret
  exact ⟨rfl, rfl⟩

set_option maxRecDepth 100000 in
set_option maxHeartbeats 3200000 in
theorem kw_random (w : World) : Calls Tryd.prog 22 #[.string ⟨#[114, 97, 110, 100, 111, 109]⟩] w fun e w' => e = .returned (.bool true) ∧ w = w' := by
  go_enter Tryd.func22, Tryd.ntmps22
  go_wp2_with fail
  go_ret
  exact ⟨rfl, rfl⟩

set_option maxRecDepth 100000 in
set_option maxHeartbeats 3200000 in
theorem kw_title (w : World) : Calls Tryd.prog 22 #[.string ⟨#[116, 105, 116, 108, 101]⟩] w fun e w' => e = .returned (.bool true) ∧ w = w' := by
  go_enter Tryd.func22, Tryd.ntmps22
  go_wp2_with fail
  go_ret
  exact ⟨rfl, rfl⟩

set_option maxRecDepth 100000 in
set_option maxHeartbeats 3200000 in
theorem kw_here (w : World) : Calls Tryd.prog 22 #[.string ⟨#[104, 101, 114, 101]⟩] w fun e w' => e = .returned (.bool true) ∧ w = w' := by
  go_enter Tryd.func22, Tryd.ntmps22
  go_wp2_with fail
  go_ret
  exact ⟨rfl, rfl⟩

set_option maxRecDepth 100000 in
set_option maxHeartbeats 3200000 in
theorem kw_player (w : World) : Calls Tryd.prog 22 #[.string ⟨#[112, 108, 97, 121, 101, 114]⟩] w fun e w' => e = .returned (.bool true) ∧ w = w' := by
  go_enter Tryd.func22, Tryd.ntmps22
  go_wp2_with fail
  go_ret
  exact ⟨rfl, rfl⟩

set_option maxRecDepth 100000 in
set_option maxHeartbeats 3200000 in
theorem kw_noun (w : World) : Calls Tryd.prog 22 #[.string ⟨#[110, 111, 117, 110]⟩] w fun e w' => e = .returned (.bool true) ∧ w = w' := by
  go_enter Tryd.func22, Tryd.ntmps22
  go_wp2_with fail
  go_ret
  exact ⟨rfl, rfl⟩

set_option maxRecDepth 100000 in
set_option maxHeartbeats 3200000 in
theorem kw_second (w : World) : Calls Tryd.prog 22 #[.string ⟨#[115, 101, 99, 111, 110, 100]⟩] w fun e w' => e = .returned (.bool true) ∧ w = w' := by
  go_enter Tryd.func22, Tryd.ntmps22
  go_wp2_with fail
  go_ret
  exact ⟨rfl, rfl⟩

set_option maxRecDepth 100000 in
set_option maxHeartbeats 3200000 in
theorem kw_number (w : World) : Calls Tryd.prog 22 #[.string ⟨#[110, 117, 109, 98, 101, 114]⟩] w fun e w' => e = .returned (.bool true) ∧ w = w' := by
  go_enter Tryd.func22, Tryd.ntmps22
  go_wp2_with fail
  go_ret
  exact ⟨rfl, rfl⟩

set_option maxRecDepth 100000 in
set_option maxHeartbeats 3200000 in
theorem kw_score (w : World) : Calls Tryd.prog 22 #[.string ⟨#[115, 99, 111, 114, 101]⟩] w fun e w' => e = .returned (.bool true) ∧ w = w' := by
  go_enter Tryd.func22, Tryd.ntmps22
  go_wp2_with fail
  go_ret
  exact ⟨rfl, rfl⟩

set_option maxRecDepth 100000 in
set_option maxHeartbeats 3200000 in
theorem kw_any (w : World) : Calls Tryd.prog 22 #[.string ⟨#[97, 110, 121]⟩] w fun e w' => e = .returned (.bool true) ∧ w = w' := by
  go_enter Tryd.func22, Tryd.ntmps22
  go_wp2_with fail
  go_ret
  exact ⟨rfl, rfl⟩

set_option maxRecDepth 100000 in
set_option maxHeartbeats 3200000 in
theorem kw_many (w : World) : Calls Tryd.prog 22 #[.string ⟨#[109, 97, 110, 121]⟩] w fun e w' => e = .returned (.bool true) ∧ w = w' := by
  go_enter Tryd.func22, Tryd.ntmps22
  go_wp2_with fail
  go_ret
  exact ⟨rfl, rfl⟩

set_option maxRecDepth 100000 in
set_option maxHeartbeats 3200000 in
theorem kw_dir (w : World) : Calls Tryd.prog 22 #[.string ⟨#[100, 105, 114]⟩] w fun e w' => e = .returned (.bool true) ∧ w = w' := by
  go_enter Tryd.func22, Tryd.ntmps22
  go_wp2_with fail
  go_ret
  exact ⟨rfl, rfl⟩

theorem Key_yes (w : World) (s : ByteArray) (h : s.data.toList ∈ keyWs) : Calls Tryd.prog 22 #[.string s] w fun e w' => e = .returned (.bool (keyB s.data.toList)) ∧ Below w.heap.size w w' := by
  have hk : keyB s.data.toList = true := by unfold keyB; rw [holdL_keys, idxF_in _ _ _ h]; rfl
  rw [hk]
  rcases (by simpa [keyWs] using h : s.data.toList = [115, 116, 111, 114, 121] ∨ s.data.toList = [98, 121] ∨ s.data.toList = [114, 101, 108, 101, 97, 115, 101] ∨ s.data.toList = [109, 97, 120] ∨ s.data.toList = [115, 116, 97, 114, 116] ∨ s.data.toList = [102, 108, 97, 103] ∨ s.data.toList = [112, 114, 111, 112] ∨ s.data.toList = [103, 108, 111, 98, 97, 108] ∨ s.data.toList = [114, 111, 111, 109] ∨ s.data.toList = [116, 104, 105, 110, 103] ∨ s.data.toList = [105, 110] ∨ s.data.toList = [118, 101, 114, 98] ∨ s.data.toList = [109, 101, 116, 97] ∨ s.data.toList = [111, 110] ∨ s.data.toList = [98, 101, 102, 111, 114, 101] ∨ s.data.toList = [97, 102, 116, 101, 114] ∨ s.data.toList = [105, 102] ∨ s.data.toList = [102, 117, 110, 99] ∨ s.data.toList = [100, 97, 101, 109, 111, 110] ∨ s.data.toList = [116, 101, 120, 116] ∨ s.data.toList = [119, 111, 114, 100, 115] ∨ s.data.toList = [97, 100, 106, 115] ∨ s.data.toList = [105, 115] ∨ s.data.toList = [101, 120, 105, 116] ∨ s.data.toList = [116, 111] ∨ s.data.toList = [101, 108, 115, 101] ∨ s.data.toList = [115, 97, 121] ∨ s.data.toList = [108, 101, 116] ∨ s.data.toList = [115, 101, 116] ∨ s.data.toList = [117, 110, 115, 101, 116] ∨ s.data.toList = [109, 111, 118, 101] ∨ s.data.toList = [114, 101, 109, 111, 118, 101] ∨ s.data.toList = [119, 104, 105, 108, 101] ∨ s.data.toList = [101, 97, 99, 104] ∨ s.data.toList = [114, 101, 116, 117, 114, 110] ∨ s.data.toList = [115, 116, 111, 112] ∨ s.data.toList = [119, 105, 110] ∨ s.data.toList = [108, 111, 115, 101] ∨ s.data.toList = [97, 119, 97, 114, 100] ∨ s.data.toList = [104, 97, 108, 116] ∨ s.data.toList = [116, 114, 97, 118, 101, 108] ∨ s.data.toList = [108, 111, 111, 107] ∨ s.data.toList = [108, 105, 115, 116] ∨ s.data.toList = [111, 114] ∨ s.data.toList = [97, 110, 100] ∨ s.data.toList = [110, 111, 116] ∨ s.data.toList = [104, 97, 115] ∨ s.data.toList = [112, 97, 114, 101, 110, 116] ∨ s.data.toList = [99, 104, 105, 108, 100] ∨ s.data.toList = [110, 101, 120, 116] ∨ s.data.toList = [114, 97, 110, 100, 111, 109] ∨ s.data.toList = [116, 105, 116, 108, 101] ∨ s.data.toList = [104, 101, 114, 101] ∨ s.data.toList = [112, 108, 97, 121, 101, 114] ∨ s.data.toList = [110, 111, 117, 110] ∨ s.data.toList = [115, 101, 99, 111, 110, 100] ∨ s.data.toList = [110, 117, 109, 98, 101, 114] ∨ s.data.toList = [115, 99, 111, 114, 101] ∨ s.data.toList = [97, 110, 121] ∨ s.data.toList = [109, 97, 110, 121] ∨ s.data.toList = [100, 105, 114]) with h | h | h | h | h | h | h | h | h | h | h | h | h | h | h | h | h | h | h | h | h | h | h | h | h | h | h | h | h | h | h | h | h | h | h | h | h | h | h | h | h | h | h | h | h | h | h | h | h | h | h | h | h | h | h | h | h | h | h | h | h
  · rw [ba_of h]; exact (kw_story w).mono fun e w2 ⟨h1, h2⟩ => ⟨h1, by subst h2; exact Below.refl _ _⟩
  · rw [ba_of h]; exact (kw_by w).mono fun e w2 ⟨h1, h2⟩ => ⟨h1, by subst h2; exact Below.refl _ _⟩
  · rw [ba_of h]; exact (kw_release w).mono fun e w2 ⟨h1, h2⟩ => ⟨h1, by subst h2; exact Below.refl _ _⟩
  · rw [ba_of h]; exact (kw_max w).mono fun e w2 ⟨h1, h2⟩ => ⟨h1, by subst h2; exact Below.refl _ _⟩
  · rw [ba_of h]; exact (kw_start w).mono fun e w2 ⟨h1, h2⟩ => ⟨h1, by subst h2; exact Below.refl _ _⟩
  · rw [ba_of h]; exact (kw_flag w).mono fun e w2 ⟨h1, h2⟩ => ⟨h1, by subst h2; exact Below.refl _ _⟩
  · rw [ba_of h]; exact (kw_prop w).mono fun e w2 ⟨h1, h2⟩ => ⟨h1, by subst h2; exact Below.refl _ _⟩
  · rw [ba_of h]; exact (kw_global w).mono fun e w2 ⟨h1, h2⟩ => ⟨h1, by subst h2; exact Below.refl _ _⟩
  · rw [ba_of h]; exact (kw_room w).mono fun e w2 ⟨h1, h2⟩ => ⟨h1, by subst h2; exact Below.refl _ _⟩
  · rw [ba_of h]; exact (kw_thing w).mono fun e w2 ⟨h1, h2⟩ => ⟨h1, by subst h2; exact Below.refl _ _⟩
  · rw [ba_of h]; exact (kw_in w).mono fun e w2 ⟨h1, h2⟩ => ⟨h1, by subst h2; exact Below.refl _ _⟩
  · rw [ba_of h]; exact (kw_verb w).mono fun e w2 ⟨h1, h2⟩ => ⟨h1, by subst h2; exact Below.refl _ _⟩
  · rw [ba_of h]; exact (kw_meta w).mono fun e w2 ⟨h1, h2⟩ => ⟨h1, by subst h2; exact Below.refl _ _⟩
  · rw [ba_of h]; exact (kw_on w).mono fun e w2 ⟨h1, h2⟩ => ⟨h1, by subst h2; exact Below.refl _ _⟩
  · rw [ba_of h]; exact (kw_before w).mono fun e w2 ⟨h1, h2⟩ => ⟨h1, by subst h2; exact Below.refl _ _⟩
  · rw [ba_of h]; exact (kw_after w).mono fun e w2 ⟨h1, h2⟩ => ⟨h1, by subst h2; exact Below.refl _ _⟩
  · rw [ba_of h]; exact (kw_if w).mono fun e w2 ⟨h1, h2⟩ => ⟨h1, by subst h2; exact Below.refl _ _⟩
  · rw [ba_of h]; exact (kw_func w).mono fun e w2 ⟨h1, h2⟩ => ⟨h1, by subst h2; exact Below.refl _ _⟩
  · rw [ba_of h]; exact (kw_daemon w).mono fun e w2 ⟨h1, h2⟩ => ⟨h1, by subst h2; exact Below.refl _ _⟩
  · rw [ba_of h]; exact (kw_text w).mono fun e w2 ⟨h1, h2⟩ => ⟨h1, by subst h2; exact Below.refl _ _⟩
  · rw [ba_of h]; exact (kw_words w).mono fun e w2 ⟨h1, h2⟩ => ⟨h1, by subst h2; exact Below.refl _ _⟩
  · rw [ba_of h]; exact (kw_adjs w).mono fun e w2 ⟨h1, h2⟩ => ⟨h1, by subst h2; exact Below.refl _ _⟩
  · rw [ba_of h]; exact (kw_is w).mono fun e w2 ⟨h1, h2⟩ => ⟨h1, by subst h2; exact Below.refl _ _⟩
  · rw [ba_of h]; exact (kw_exit w).mono fun e w2 ⟨h1, h2⟩ => ⟨h1, by subst h2; exact Below.refl _ _⟩
  · rw [ba_of h]; exact (kw_to w).mono fun e w2 ⟨h1, h2⟩ => ⟨h1, by subst h2; exact Below.refl _ _⟩
  · rw [ba_of h]; exact (kw_else w).mono fun e w2 ⟨h1, h2⟩ => ⟨h1, by subst h2; exact Below.refl _ _⟩
  · rw [ba_of h]; exact (kw_say w).mono fun e w2 ⟨h1, h2⟩ => ⟨h1, by subst h2; exact Below.refl _ _⟩
  · rw [ba_of h]; exact (kw_let w).mono fun e w2 ⟨h1, h2⟩ => ⟨h1, by subst h2; exact Below.refl _ _⟩
  · rw [ba_of h]; exact (kw_set w).mono fun e w2 ⟨h1, h2⟩ => ⟨h1, by subst h2; exact Below.refl _ _⟩
  · rw [ba_of h]; exact (kw_unset w).mono fun e w2 ⟨h1, h2⟩ => ⟨h1, by subst h2; exact Below.refl _ _⟩
  · rw [ba_of h]; exact (kw_move w).mono fun e w2 ⟨h1, h2⟩ => ⟨h1, by subst h2; exact Below.refl _ _⟩
  · rw [ba_of h]; exact (kw_remove w).mono fun e w2 ⟨h1, h2⟩ => ⟨h1, by subst h2; exact Below.refl _ _⟩
  · rw [ba_of h]; exact (kw_while w).mono fun e w2 ⟨h1, h2⟩ => ⟨h1, by subst h2; exact Below.refl _ _⟩
  · rw [ba_of h]; exact (kw_each w).mono fun e w2 ⟨h1, h2⟩ => ⟨h1, by subst h2; exact Below.refl _ _⟩
  · rw [ba_of h]; exact (kw_return w).mono fun e w2 ⟨h1, h2⟩ => ⟨h1, by subst h2; exact Below.refl _ _⟩
  · rw [ba_of h]; exact (kw_stop w).mono fun e w2 ⟨h1, h2⟩ => ⟨h1, by subst h2; exact Below.refl _ _⟩
  · rw [ba_of h]; exact (kw_win w).mono fun e w2 ⟨h1, h2⟩ => ⟨h1, by subst h2; exact Below.refl _ _⟩
  · rw [ba_of h]; exact (kw_lose w).mono fun e w2 ⟨h1, h2⟩ => ⟨h1, by subst h2; exact Below.refl _ _⟩
  · rw [ba_of h]; exact (kw_award w).mono fun e w2 ⟨h1, h2⟩ => ⟨h1, by subst h2; exact Below.refl _ _⟩
  · rw [ba_of h]; exact (kw_halt w).mono fun e w2 ⟨h1, h2⟩ => ⟨h1, by subst h2; exact Below.refl _ _⟩
  · rw [ba_of h]; exact (kw_travel w).mono fun e w2 ⟨h1, h2⟩ => ⟨h1, by subst h2; exact Below.refl _ _⟩
  · rw [ba_of h]; exact (kw_look w).mono fun e w2 ⟨h1, h2⟩ => ⟨h1, by subst h2; exact Below.refl _ _⟩
  · rw [ba_of h]; exact (kw_list w).mono fun e w2 ⟨h1, h2⟩ => ⟨h1, by subst h2; exact Below.refl _ _⟩
  · rw [ba_of h]; exact (kw_or w).mono fun e w2 ⟨h1, h2⟩ => ⟨h1, by subst h2; exact Below.refl _ _⟩
  · rw [ba_of h]; exact (kw_and w).mono fun e w2 ⟨h1, h2⟩ => ⟨h1, by subst h2; exact Below.refl _ _⟩
  · rw [ba_of h]; exact (kw_not w).mono fun e w2 ⟨h1, h2⟩ => ⟨h1, by subst h2; exact Below.refl _ _⟩
  · rw [ba_of h]; exact (kw_has w).mono fun e w2 ⟨h1, h2⟩ => ⟨h1, by subst h2; exact Below.refl _ _⟩
  · rw [ba_of h]; exact (kw_parent w).mono fun e w2 ⟨h1, h2⟩ => ⟨h1, by subst h2; exact Below.refl _ _⟩
  · rw [ba_of h]; exact (kw_child w).mono fun e w2 ⟨h1, h2⟩ => ⟨h1, by subst h2; exact Below.refl _ _⟩
  · rw [ba_of h]; exact (kw_next w).mono fun e w2 ⟨h1, h2⟩ => ⟨h1, by subst h2; exact Below.refl _ _⟩
  · rw [ba_of h]; exact (kw_random w).mono fun e w2 ⟨h1, h2⟩ => ⟨h1, by subst h2; exact Below.refl _ _⟩
  · rw [ba_of h]; exact (kw_title w).mono fun e w2 ⟨h1, h2⟩ => ⟨h1, by subst h2; exact Below.refl _ _⟩
  · rw [ba_of h]; exact (kw_here w).mono fun e w2 ⟨h1, h2⟩ => ⟨h1, by subst h2; exact Below.refl _ _⟩
  · rw [ba_of h]; exact (kw_player w).mono fun e w2 ⟨h1, h2⟩ => ⟨h1, by subst h2; exact Below.refl _ _⟩
  · rw [ba_of h]; exact (kw_noun w).mono fun e w2 ⟨h1, h2⟩ => ⟨h1, by subst h2; exact Below.refl _ _⟩
  · rw [ba_of h]; exact (kw_second w).mono fun e w2 ⟨h1, h2⟩ => ⟨h1, by subst h2; exact Below.refl _ _⟩
  · rw [ba_of h]; exact (kw_number w).mono fun e w2 ⟨h1, h2⟩ => ⟨h1, by subst h2; exact Below.refl _ _⟩
  · rw [ba_of h]; exact (kw_score w).mono fun e w2 ⟨h1, h2⟩ => ⟨h1, by subst h2; exact Below.refl _ _⟩
  · rw [ba_of h]; exact (kw_any w).mono fun e w2 ⟨h1, h2⟩ => ⟨h1, by subst h2; exact Below.refl _ _⟩
  · rw [ba_of h]; exact (kw_many w).mono fun e w2 ⟨h1, h2⟩ => ⟨h1, by subst h2; exact Below.refl _ _⟩
  · rw [ba_of h]; exact (kw_dir w).mono fun e w2 ⟨h1, h2⟩ => ⟨h1, by subst h2; exact Below.refl _ _⟩

set_option maxRecDepth 100000 in
set_option maxHeartbeats 12800000 in
theorem Key_any (w : World) (s : ByteArray) : Calls Tryd.prog 22 #[.string s] w fun e w' => e = .returned (.bool (keyB s.data.toList)) ∧ Below w.heap.size w w' := by
  by_cases hin : s.data.toList ∈ keyWs
  · exact Key_yes w s hin
  obtain ⟨D, hD⟩ : ∃ D, D = keyB s.data.toList := ⟨_, rfl⟩
  have HK := Lib.hid hin
  have HD := Lib.hid hD
  rw [← hD]
  clear hD
  obtain ⟨N, hN⟩ : ∃ N, N = dirN s.data.toList := ⟨_, rfl⟩
  have hdir : ∀ W, Calls Tryd.prog 41 #[.string s] W fun e w' => e = .returned (.int .i64 (N : Nat)) ∧ Below W.heap.size W w' := fun W => by rw [hN]; exact Dir_any W s
  have HN := Lib.hid hN
  clear hN
  have t0 : (s.toList == [115, 116, 111, 114, 121]) = false := beq_eq_false_iff_ne.2 fun h => hin (by rw [← Lib.toList_data, h]; decide)
  have t1 : (s.toList == [98, 121]) = false := beq_eq_false_iff_ne.2 fun h => hin (by rw [← Lib.toList_data, h]; decide)
  have t2 : (s.toList == [114, 101, 108, 101, 97, 115, 101]) = false := beq_eq_false_iff_ne.2 fun h => hin (by rw [← Lib.toList_data, h]; decide)
  have t3 : (s.toList == [109, 97, 120]) = false := beq_eq_false_iff_ne.2 fun h => hin (by rw [← Lib.toList_data, h]; decide)
  have t4 : (s.toList == [115, 116, 97, 114, 116]) = false := beq_eq_false_iff_ne.2 fun h => hin (by rw [← Lib.toList_data, h]; decide)
  have t5 : (s.toList == [102, 108, 97, 103]) = false := beq_eq_false_iff_ne.2 fun h => hin (by rw [← Lib.toList_data, h]; decide)
  have t6 : (s.toList == [112, 114, 111, 112]) = false := beq_eq_false_iff_ne.2 fun h => hin (by rw [← Lib.toList_data, h]; decide)
  have t7 : (s.toList == [103, 108, 111, 98, 97, 108]) = false := beq_eq_false_iff_ne.2 fun h => hin (by rw [← Lib.toList_data, h]; decide)
  have t8 : (s.toList == [114, 111, 111, 109]) = false := beq_eq_false_iff_ne.2 fun h => hin (by rw [← Lib.toList_data, h]; decide)
  have t9 : (s.toList == [116, 104, 105, 110, 103]) = false := beq_eq_false_iff_ne.2 fun h => hin (by rw [← Lib.toList_data, h]; decide)
  have t10 : (s.toList == [105, 110]) = false := beq_eq_false_iff_ne.2 fun h => hin (by rw [← Lib.toList_data, h]; decide)
  have t11 : (s.toList == [118, 101, 114, 98]) = false := beq_eq_false_iff_ne.2 fun h => hin (by rw [← Lib.toList_data, h]; decide)
  have t12 : (s.toList == [109, 101, 116, 97]) = false := beq_eq_false_iff_ne.2 fun h => hin (by rw [← Lib.toList_data, h]; decide)
  have t13 : (s.toList == [111, 110]) = false := beq_eq_false_iff_ne.2 fun h => hin (by rw [← Lib.toList_data, h]; decide)
  have t14 : (s.toList == [98, 101, 102, 111, 114, 101]) = false := beq_eq_false_iff_ne.2 fun h => hin (by rw [← Lib.toList_data, h]; decide)
  have t15 : (s.toList == [97, 102, 116, 101, 114]) = false := beq_eq_false_iff_ne.2 fun h => hin (by rw [← Lib.toList_data, h]; decide)
  have t16 : (s.toList == [105, 102]) = false := beq_eq_false_iff_ne.2 fun h => hin (by rw [← Lib.toList_data, h]; decide)
  have t17 : (s.toList == [102, 117, 110, 99]) = false := beq_eq_false_iff_ne.2 fun h => hin (by rw [← Lib.toList_data, h]; decide)
  have t18 : (s.toList == [100, 97, 101, 109, 111, 110]) = false := beq_eq_false_iff_ne.2 fun h => hin (by rw [← Lib.toList_data, h]; decide)
  have t19 : (s.toList == [116, 101, 120, 116]) = false := beq_eq_false_iff_ne.2 fun h => hin (by rw [← Lib.toList_data, h]; decide)
  have t20 : (s.toList == [119, 111, 114, 100, 115]) = false := beq_eq_false_iff_ne.2 fun h => hin (by rw [← Lib.toList_data, h]; decide)
  have t21 : (s.toList == [97, 100, 106, 115]) = false := beq_eq_false_iff_ne.2 fun h => hin (by rw [← Lib.toList_data, h]; decide)
  have t22 : (s.toList == [105, 115]) = false := beq_eq_false_iff_ne.2 fun h => hin (by rw [← Lib.toList_data, h]; decide)
  have t23 : (s.toList == [101, 120, 105, 116]) = false := beq_eq_false_iff_ne.2 fun h => hin (by rw [← Lib.toList_data, h]; decide)
  have t24 : (s.toList == [116, 111]) = false := beq_eq_false_iff_ne.2 fun h => hin (by rw [← Lib.toList_data, h]; decide)
  have t25 : (s.toList == [101, 108, 115, 101]) = false := beq_eq_false_iff_ne.2 fun h => hin (by rw [← Lib.toList_data, h]; decide)
  have t26 : (s.toList == [115, 97, 121]) = false := beq_eq_false_iff_ne.2 fun h => hin (by rw [← Lib.toList_data, h]; decide)
  have t27 : (s.toList == [108, 101, 116]) = false := beq_eq_false_iff_ne.2 fun h => hin (by rw [← Lib.toList_data, h]; decide)
  have t28 : (s.toList == [115, 101, 116]) = false := beq_eq_false_iff_ne.2 fun h => hin (by rw [← Lib.toList_data, h]; decide)
  have t29 : (s.toList == [117, 110, 115, 101, 116]) = false := beq_eq_false_iff_ne.2 fun h => hin (by rw [← Lib.toList_data, h]; decide)
  have t30 : (s.toList == [109, 111, 118, 101]) = false := beq_eq_false_iff_ne.2 fun h => hin (by rw [← Lib.toList_data, h]; decide)
  have t31 : (s.toList == [114, 101, 109, 111, 118, 101]) = false := beq_eq_false_iff_ne.2 fun h => hin (by rw [← Lib.toList_data, h]; decide)
  have t32 : (s.toList == [119, 104, 105, 108, 101]) = false := beq_eq_false_iff_ne.2 fun h => hin (by rw [← Lib.toList_data, h]; decide)
  have t33 : (s.toList == [101, 97, 99, 104]) = false := beq_eq_false_iff_ne.2 fun h => hin (by rw [← Lib.toList_data, h]; decide)
  have t34 : (s.toList == [114, 101, 116, 117, 114, 110]) = false := beq_eq_false_iff_ne.2 fun h => hin (by rw [← Lib.toList_data, h]; decide)
  have t35 : (s.toList == [115, 116, 111, 112]) = false := beq_eq_false_iff_ne.2 fun h => hin (by rw [← Lib.toList_data, h]; decide)
  have t36 : (s.toList == [119, 105, 110]) = false := beq_eq_false_iff_ne.2 fun h => hin (by rw [← Lib.toList_data, h]; decide)
  have t37 : (s.toList == [108, 111, 115, 101]) = false := beq_eq_false_iff_ne.2 fun h => hin (by rw [← Lib.toList_data, h]; decide)
  have t38 : (s.toList == [97, 119, 97, 114, 100]) = false := beq_eq_false_iff_ne.2 fun h => hin (by rw [← Lib.toList_data, h]; decide)
  have t39 : (s.toList == [104, 97, 108, 116]) = false := beq_eq_false_iff_ne.2 fun h => hin (by rw [← Lib.toList_data, h]; decide)
  have t40 : (s.toList == [116, 114, 97, 118, 101, 108]) = false := beq_eq_false_iff_ne.2 fun h => hin (by rw [← Lib.toList_data, h]; decide)
  have t41 : (s.toList == [108, 111, 111, 107]) = false := beq_eq_false_iff_ne.2 fun h => hin (by rw [← Lib.toList_data, h]; decide)
  have t42 : (s.toList == [108, 105, 115, 116]) = false := beq_eq_false_iff_ne.2 fun h => hin (by rw [← Lib.toList_data, h]; decide)
  have t43 : (s.toList == [111, 114]) = false := beq_eq_false_iff_ne.2 fun h => hin (by rw [← Lib.toList_data, h]; decide)
  have t44 : (s.toList == [97, 110, 100]) = false := beq_eq_false_iff_ne.2 fun h => hin (by rw [← Lib.toList_data, h]; decide)
  have t45 : (s.toList == [110, 111, 116]) = false := beq_eq_false_iff_ne.2 fun h => hin (by rw [← Lib.toList_data, h]; decide)
  have t46 : (s.toList == [104, 97, 115]) = false := beq_eq_false_iff_ne.2 fun h => hin (by rw [← Lib.toList_data, h]; decide)
  have t47 : (s.toList == [112, 97, 114, 101, 110, 116]) = false := beq_eq_false_iff_ne.2 fun h => hin (by rw [← Lib.toList_data, h]; decide)
  have t48 : (s.toList == [99, 104, 105, 108, 100]) = false := beq_eq_false_iff_ne.2 fun h => hin (by rw [← Lib.toList_data, h]; decide)
  have t49 : (s.toList == [110, 101, 120, 116]) = false := beq_eq_false_iff_ne.2 fun h => hin (by rw [← Lib.toList_data, h]; decide)
  have t50 : (s.toList == [114, 97, 110, 100, 111, 109]) = false := beq_eq_false_iff_ne.2 fun h => hin (by rw [← Lib.toList_data, h]; decide)
  have t51 : (s.toList == [116, 105, 116, 108, 101]) = false := beq_eq_false_iff_ne.2 fun h => hin (by rw [← Lib.toList_data, h]; decide)
  have t52 : (s.toList == [104, 101, 114, 101]) = false := beq_eq_false_iff_ne.2 fun h => hin (by rw [← Lib.toList_data, h]; decide)
  have t53 : (s.toList == [112, 108, 97, 121, 101, 114]) = false := beq_eq_false_iff_ne.2 fun h => hin (by rw [← Lib.toList_data, h]; decide)
  have t54 : (s.toList == [110, 111, 117, 110]) = false := beq_eq_false_iff_ne.2 fun h => hin (by rw [← Lib.toList_data, h]; decide)
  have t55 : (s.toList == [115, 101, 99, 111, 110, 100]) = false := beq_eq_false_iff_ne.2 fun h => hin (by rw [← Lib.toList_data, h]; decide)
  have t56 : (s.toList == [110, 117, 109, 98, 101, 114]) = false := beq_eq_false_iff_ne.2 fun h => hin (by rw [← Lib.toList_data, h]; decide)
  have t57 : (s.toList == [115, 99, 111, 114, 101]) = false := beq_eq_false_iff_ne.2 fun h => hin (by rw [← Lib.toList_data, h]; decide)
  have t58 : (s.toList == [97, 110, 121]) = false := beq_eq_false_iff_ne.2 fun h => hin (by rw [← Lib.toList_data, h]; decide)
  have t59 : (s.toList == [109, 97, 110, 121]) = false := beq_eq_false_iff_ne.2 fun h => hin (by rw [← Lib.toList_data, h]; decide)
  have t60 : (s.toList == [100, 105, 114]) = false := beq_eq_false_iff_ne.2 fun h => hin (by rw [← Lib.toList_data, h]; decide)
  clear hin
  go_enter Tryd.func22, Tryd.ntmps22
  go_wp2_with fail
  refine (hdir _).mono ?_
  rintro e w1 ⟨rfl, hb⟩
  by_cases h0 : (N : Int) = 0
  · have t00 : ((N : Int) != 0) = false := by simpa using h0
    have HF : Hid (D = false) := Lib.hid (by rw [HD.out, keyB_no HK.out, ← HN.out]; exact decide_eq_false (fun h => h (by omega)))
    clear h0
    go_wp2_with fail
    go_ret
    rw [HF.out]
    exact ⟨rfl, hb⟩
  · have t00 : ((N : Int) != 0) = true := by simpa using h0
    have HF : Hid (D = true) := Lib.hid (by rw [HD.out, keyB_no HK.out, ← HN.out]; exact decide_eq_true (fun h => h0 (by omega)))
    clear h0
    go_wp2_with fail
    go_ret
    rw [HF.out]
    exact ⟨rfl, hb⟩

end Go.Proofs.YtgeglhgkibcpfaaDoor
