/- Contracts of the references' row, form, Number (of digits), number, sign. -/
import Derived.Test.YtgeglhgkibcpfaaDoorLexC
namespace Go.Proofs.YtgeglhgkibcpfaaDoor
open Go.RowKit

theorem int_ret9 {a b : Int} (h : a = b) : Ending.returned (.int .i64 a) = .returned (.int .i64 b) := by rw [h]
theorem byte_at9 (s : ByteArray) (j : Nat) (h : j < s.size) : s.data.toList[j]?.getD 0 = s[j] := by
  have e : s.data.toList[j]? = some s[j] := by
    rw [Array.getElem?_toList, Array.getElem?_eq_getElem (by exact h)]; rfl
  rw [e]; rfl

theorem rowF_on {nm : Bool} {c : UInt8} {r : List UInt8} (h : (isDg c || (nm && (isSm c || decide ((c.toNat : Int) = 95)))) = true) : rowF nm (c :: r) = rowF nm r + 1 := by
  conv => lhs; unfold rowF
  rw [if_pos h]
theorem rowF_end {nm : Bool} {c : UInt8} {r : List UInt8} (h : (isDg c || (nm && (isSm c || decide ((c.toNat : Int) = 95)))) = false) : rowF nm (c :: r) = 0 := by
  unfold rowF
  rw [if_neg (by rw [h]; decide)]

theorem numF_ge : ∀ (r : List UInt8) (n : Nat), n ≤ numF n r := by
  intro r
  induction r with
  | nil => intro n; exact Nat.le_refl _
  | cons c r ih =>
    intro n
    have := ih (10 * n + (c.toNat - 48))
    show n ≤ numF (10 * n + (c.toNat - 48)) r
    omega

/-- what Number hands back for digits -/
def numV (N : Nat) : Value := .tuple #[.int .u64 ((if 32767 < N then 0 else N : Nat) : Int), .int .i64 (if 32767 < N then 5 else 0)]

theorem numV_big {N : Nat} (h : 32767 < N) : Value.tuple #[.int .u64 0, .int .i64 5] = numV N := by unfold numV; rw [if_pos h, if_pos h]; rfl
theorem numV_ok {N n : Nat} (h : N = n) (hn : n ≤ 32767) : Value.tuple #[.int .u64 (n : Int), .int .i64 0] = numV N := by unfold numV; rw [h, if_neg (by omega), if_neg (by omega)]

end Go.Proofs.YtgeglhgkibcpfaaDoor
