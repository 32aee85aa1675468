/- Contracts of the reference's Key, Dir. -/
import Derived.Test.YtgeglhgkibcpfaaDoorLexA
namespace Go.Proofs.YtgeglhgkibcpfaaDoor
open Go.RowKit

def keysL : List UInt8 := [32, 115, 116, 111, 114, 121, 32, 98, 121, 32, 114, 101, 108, 101, 97, 115, 101, 32, 109, 97, 120, 32, 115, 116, 97, 114, 116, 32, 102, 108, 97, 103, 32, 112, 114, 111, 112, 32, 103, 108, 111, 98, 97, 108, 32, 114, 111, 111, 109, 32, 116, 104, 105, 110, 103, 32, 105, 110, 32, 118, 101, 114, 98, 32, 109, 101, 116, 97, 32, 111, 110, 32, 98, 101, 102, 111, 114, 101, 32, 97, 102, 116, 101, 114, 32, 105, 102, 32, 102, 117, 110, 99, 32, 100, 97, 101, 109, 111, 110, 32, 116, 101, 120, 116, 32, 119, 111, 114, 100, 115, 32, 97, 100, 106, 115, 32, 105, 115, 32, 101, 120, 105, 116, 32, 116, 111, 32, 101, 108, 115, 101, 32, 115, 97, 121, 32, 108, 101, 116, 32, 115, 101, 116, 32, 117, 110, 115, 101, 116, 32, 109, 111, 118, 101, 32, 114, 101, 109, 111, 118, 101, 32, 119, 104, 105, 108, 101, 32, 101, 97, 99, 104, 32, 114, 101, 116, 117, 114, 110, 32, 115, 116, 111, 112, 32, 119, 105, 110, 32, 108, 111, 115, 101, 32, 97, 119, 97, 114, 100, 32, 104, 97, 108, 116, 32, 116, 114, 97, 118, 101, 108, 32, 108, 111, 111, 107, 32, 108, 105, 115, 116, 32, 111, 114, 32, 97, 110, 100, 32, 110, 111, 116, 32, 104, 97, 115, 32, 112, 97, 114, 101, 110, 116, 32, 99, 104, 105, 108, 100, 32, 110, 101, 120, 116, 32, 114, 97, 110, 100, 111, 109, 32, 116, 105, 116, 108, 101, 32, 104, 101, 114, 101, 32, 112, 108, 97, 121, 101, 114, 32, 110, 111, 117, 110, 32, 115, 101, 99, 111, 110, 100, 32, 110, 117, 109, 98, 101, 114, 32, 115, 99, 111, 114, 101, 32, 97, 110, 121, 32, 109, 97, 110, 121, 32, 100, 105, 114, 32]
def dirsL : List UInt8 := [32, 110, 111, 114, 116, 104, 32, 115, 111, 117, 116, 104, 32, 101, 97, 115, 116, 32, 119, 101, 115, 116, 32, 110, 111, 114, 116, 104, 101, 97, 115, 116, 32, 110, 111, 114, 116, 104, 119, 101, 115, 116, 32, 115, 111, 117, 116, 104, 101, 97, 115, 116, 32, 115, 111, 117, 116, 104, 119, 101, 115, 116, 32, 117, 112, 32, 100, 111, 119, 110, 32, 105, 110, 32, 111, 117, 116, 32]
/-- is a word a keyword; a direction's number -/
def keyB (s : List UInt8) : Bool := (holdL keysL s).2 || (holdL dirsL s).2
def dirN (s : List UInt8) : Nat := if (holdL dirsL s).2 = true then (holdL dirsL s).1 + 1 else 0

theorem holdF_le (s : List UInt8) : ∀ (l one : List UInt8) (n : Nat), (holdF s l one n).1 ≤ n + l.length := by
  intro l
  induction l with
  | nil => intro one n; exact Nat.zero_le _
  | cons c r ih =>
    intro one n
    have e : holdF s (c :: r) one n = if (c.toNat : Int) ≠ 32 then holdF s r (one ++ [c]) n else if one = s then (n, true) else holdF s r [] (n + 1) := rfl
    rw [e, List.length_cons]
    split
    · have := ih (one ++ [c]) n; omega
    · split
      · show n ≤ _; omega
      · have := ih [] (n + 1); omega

theorem dirs_le (s : List UInt8) : (holdL dirsL s).1 ≤ 100 := by
  have := holdF_le s (dirsL.drop 1) [] 0
  have h : (dirsL.drop 1).length ≤ 100 := by decide
  unfold holdL
  omega

set_option maxRecDepth 100000 in
set_option maxHeartbeats 3200000 in
theorem r9Key_any (w : World) (s : ByteArray) :
    Calls Tryd.prog 33 #[.string s] w fun e w' => e = .returned (.bool (keyB s.data.toList)) ∧ w = w' := by
  obtain ⟨A, hA⟩ : ∃ A, A = holdL keysL s.data.toList := ⟨_, rfl⟩
  obtain ⟨B, hB⟩ : ∃ B, B = holdL dirsL s.data.toList := ⟨_, rfl⟩
  have HA := Lib.hid hA
  have HB := Lib.hid hB
  have HR : Hid (keyB s.data.toList = (A.2 || B.2)) := Lib.hid (by unfold keyB; rw [hA, hB])
  clear hA hB
  go_enter Tryd.func33, Tryd.ntmps33
  go_wp2_with fail
  refine (r9holds_any w _ s (by decide) (by decide)).mono ?_
  rintro e w1 ⟨he, rfl⟩
  obtain rfl : e = .returned (.tuple #[.int .i64 A.1, .bool A.2]) := he.trans (by rw [HA.out]; rfl)
  clear he
  go_wp2_with fail
  refine (r9holds_any w _ s (by decide) (by decide)).mono ?_
  rintro e w1 ⟨he, rfl⟩
  obtain rfl : e = .returned (.tuple #[.int .i64 B.1, .bool B.2]) := he.trans (by rw [HB.out]; rfl)
  clear he
  cases hA2 : A.2
  · cases hB2 : B.2
    · go_wp2_with fail
      go_ret
      rw [HR.out, hA2, hB2]
      exact ⟨rfl, rfl⟩
    · go_wp2_with fail
      go_ret
      rw [HR.out, hA2, hB2]
      exact ⟨rfl, rfl⟩
  · go_wp2_with fail
    go_ret
    rw [HR.out, hA2]
    exact ⟨rfl, rfl⟩

end Go.Proofs.YtgeglhgkibcpfaaDoor
