/- Contracts of the references' number and sign. -/
import Derived.Test.YtgeglhgkibcpfaaDoorLexD
namespace Go.Proofs.YtgeglhgkibcpfaaDoor
open Go.RowKit

theorem rowF_dg : ∀ (l : List UInt8) (j : Nat), j < rowF false l → isDg (l[j]?.getD 0) = true := by
  intro l
  induction l with
  | nil => intro j h; exact absurd h (Nat.not_lt_zero _)
  | cons c r ih =>
    intro j h
    cases hd : isDg c with
    | false => rw [rowF_end (by rw [hd]; rfl)] at h; exact absurd h (Nat.not_lt_zero _)
    | true =>
      rw [rowF_on (by rw [hd]; rfl)] at h
      cases j with
      | zero => exact hd
      | succ j => exact ih j (by omega)

theorem ext_list (s : ByteArray) (i n : Nat) : (s.extract i (i + n)).data.toList = (s.data.toList.drop i).take n := by
  rw [ByteArray.data_extract]
  simp [List.take_drop]

/-- what number hands back -/
def nrV (bad : Bool) (N : Nat) : Value := .tuple #[.int .i64 ((if bad = true ∨ 32767 < N then 0 else N : Nat) : Int), .int .i64 (if bad = true then 4 else if 32767 < N then 5 else 0)]

theorem nrV_bad (N : Nat) : Value.tuple #[.int .i64 0, .int .i64 4] = nrV true N := by unfold nrV; simp
theorem nrV_big {N : Nat} (h : 32767 < N) : Value.tuple #[.int .i64 0, .int .i64 5] = nrV false N := by unfold nrV; simp [h]
theorem nrV_ok {N : Nat} (h : ¬ 32767 < N) : Value.tuple #[.int .i64 (N : Int), .int .i64 0] = nrV false N := by
  unfold nrV
  have h1 : ¬ (false = true ∨ 32767 < N) := by rintro (h2 | h2); cases h2; exact h h2
  rw [if_neg h1, if_neg (by decide), if_neg h]

/-- is the byte behind a number none that ends it? -/
def stuck (s : ByteArray) (t : Nat) : Bool := match (s.data.toList.drop t).head? with
  | some d => isSm d || isCp d || decide ((d.toNat : Int) = 95)
  | none => false

end Go.Proofs.YtgeglhgkibcpfaaDoor
