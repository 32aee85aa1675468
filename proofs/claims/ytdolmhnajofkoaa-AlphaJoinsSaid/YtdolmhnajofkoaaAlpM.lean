/- Contracts of alpha.Pack and of its closure. -/
import Derived.Test.YtdolmhnajofkoaaAlpK
import Derived.Test.YtdolmhnajofkoaaAlpR4
namespace Go.Proofs.Ytdolmhnajofkoaa
open Go.RowKit

theorem num2_append (a b : List Nat) : num2 (a ++ b) = num2 a * 2 ^ b.length + num2 b := by
  generalize hn : b.length = n
  induction n generalizing b with
  | zero => rw [List.eq_nil_of_length_eq_zero hn, List.append_nil]; simp [num2]
  | succ n ih =>
    have hne : b ≠ [] := by rintro rfl; simp at hn
    have e := List.dropLast_concat_getLast hne
    have h1 := ih b.dropLast (by rw [List.length_dropLast, hn]; omega)
    rw [← e, ← List.append_assoc, num2_snoc, num2_snoc, h1, Nat.pow_succ, Nat.mul_add, ← Nat.mul_assoc]
    rw [Nat.mul_comm 2 (num2 a), Nat.mul_assoc, Nat.mul_comm 2 (2 ^ n)]
    omega

theorem wrap_i64_eq (x : Int) : IntKind.i64.wrap x = wrap64 x := by rw [IntKind.wrap_i64]; unfold wrap64; rfl

theorem or_low (p v : Int) (b : Nat) (hb : b ≤ 8) (h0 : 0 ≤ v) (h1 : v < 2 ^ b) : bits .or .i64 (wrap64 (p * 2 ^ b)) v = wrap64 ((p * 2 ^ b) % 18446744073709551616 + v) := by
  obtain ⟨k, rfl⟩ : ∃ k : Nat, v = k := ⟨v.toNat, by omega⟩
  obtain ⟨a, ha⟩ : ∃ a : Nat, (p * 2 ^ b) % 18446744073709551616 = a := ⟨((p * 2 ^ b) % 18446744073709551616).toNat, by omega⟩
  have hk : k < 2 ^ b := by
    have : ((2 ^ b : Nat) : Int) = 2 ^ b := by rw [Int.natCast_pow]; rfl
    omega
  have hm : a % 2 ^ b = 0 := by
    rcases (by omega : b = 0 ∨ b = 1 ∨ b = 2 ∨ b = 3 ∨ b = 4 ∨ b = 5 ∨ b = 6 ∨ b = 7 ∨ b = 8) with rfl | rfl | rfl | rfl | rfl | rfl | rfl | rfl | rfl <;> simp at ha ⊢ <;> omega
  have hlt : a < 18446744073709551616 := by omega
  have hk2 : k < 18446744073709551616 := by
    rcases (by omega : b = 0 ∨ b = 1 ∨ b = 2 ∨ b = 3 ∨ b = 4 ∨ b = 5 ∨ b = 6 ∨ b = 7 ∨ b = 8) with rfl | rfl | rfl | rfl | rfl | rfl | rfl | rfl | rfl <;> simp at hk <;> omega
  have e1 : (BitVec.ofInt 64 (wrap64 (p * 2 ^ b))).toNat = a := by
    rw [BitVec.toNat_ofInt]
    unfold wrap64
    omega
  have e2 : (BitVec.ofInt 64 (k : Int)).toNat = k := by
    rw [BitVec.toNat_ofInt]
    omega
  rw [ha]
  have h3 := nat_join b a k hm hk
  show IntKind.i64.wrap (((BitVec.ofInt 64 (wrap64 (p * 2 ^ b)) ||| BitVec.ofInt 64 (k : Int)).toNat : Nat) : Int) = _
  rw [BitVec.toNat_or, e1, e2, h3, wrap_i64_eq]
  congr 1

/-- how far the bits U are packed: the bytes P, and the pending rest, the lowest bits of p -/
def St (U : List Nat) (P : List UInt8) (len : Nat) (p : Int) : Prop := ∃ R, unb P ++ R = U ∧ R.length = len ∧ isBits R ∧ p % 2 ^ len = (num2 R : Nat)

theorem St.start : St [] [] 0 0 := ⟨[], rfl, rfl, fun _ h => absurd h (by simp), by simp [num2]⟩

theorem low_mod (p q v : Int) (len b : Nat) (hl : len < 8) (hb : b ≤ 8) (h0 : 0 ≤ v) (h1 : v < 2 ^ b) (hq : q = wrap64 ((p * 2 ^ b) % 18446744073709551616 + v)) : q % 2 ^ (len + b) = (p % 2 ^ len) * 2 ^ b + v := by
  subst hq
  unfold wrap64
  rcases (by omega : b = 0 ∨ b = 1 ∨ b = 2 ∨ b = 3 ∨ b = 4 ∨ b = 5 ∨ b = 6 ∨ b = 7 ∨ b = 8) with rfl | rfl | rfl | rfl | rfl | rfl | rfl | rfl | rfl <;>
  rcases (by omega : len = 0 ∨ len = 1 ∨ len = 2 ∨ len = 3 ∨ len = 4 ∨ len = 5 ∨ len = 6 ∨ len = 7) with rfl | rfl | rfl | rfl | rfl | rfl | rfl | rfl <;> simp at h1 ⊢ <;> omega

theorem St.more {U : List Nat} {P : List UInt8} {len : Nat} {p q v : Int} (h : St U P len p) (vb : List Nat) (b : Nat) (hvb : vb.length = b) (hi : isBits vb) (hv : v = (num2 vb : Nat)) (hl : len < 8) (hb : b ≤ 8) (hq : q = wrap64 ((p * 2 ^ b) % 18446744073709551616 + v)) : St (U ++ vb) P (len + b) q := by
  obtain ⟨R, h1, h2, h3, h4⟩ := h
  have hlt := num2_lt b vb hvb hi
  refine ⟨R ++ vb, by rw [← h1, List.append_assoc], by rw [List.length_append, h2, hvb], isBits_append.2 ⟨h3, hi⟩, ?_⟩
  rw [low_mod p q v len b hl hb (by omega) (by rw [hv, show (2 : Int) ^ b = ((2 ^ b : Nat) : Int) from by rw [Int.natCast_pow]; rfl]; exact_mod_cast hlt) hq, h4, num2_append, hv, hvb]
  push_cast
  rfl

theorem St.byte {U : List Nat} {P : List UInt8} {len m : Nat} {q : Int} (h : St U P len q) (hm : len = m + 8) (hm8 : m < 8) : St U (P ++ [byt (q / 2 ^ m)]) m q := by
  obtain ⟨R, h1, h2, h3, h4⟩ := h
  have e := List.take_append_drop 8 R
  have hF : (R.take 8).length = 8 := by rw [List.length_take]; omega
  have hT : (R.drop 8).length = m := by rw [List.length_drop]; omega
  have hb := isBits_append.1 (by rw [e]; exact h3 : isBits (R.take 8 ++ R.drop 8))
  have k1 := num2_lt 8 _ hF hb.1
  have k2 := num2_lt m _ hT hb.2
  have hn : num2 R = num2 (R.take 8) * 2 ^ m + num2 (R.drop 8) := by
    conv => lhs; rw [← e, num2_append, hT]
  rw [hn, hm] at h4
  have hd : q / 2 ^ m % 256 = (num2 (R.take 8) : Nat) ∧ q % 2 ^ m = (num2 (R.drop 8) : Nat) := by
    generalize num2 (R.take 8) = F at *
    generalize num2 (R.drop 8) = T at *
    clear hb hn hF hT e h1 h2 h3 hm
    rcases (by omega : m = 0 ∨ m = 1 ∨ m = 2 ∨ m = 3 ∨ m = 4 ∨ m = 5 ∨ m = 6 ∨ m = 7) with rfl | rfl | rfl | rfl | rfl | rfl | rfl | rfl <;> simp at h4 k1 k2 ⊢ <;> omega
  refine ⟨R.drop 8, ?_, hT, hb.2, hd.2⟩
  have hby : byt (q / 2 ^ m) = UInt8.ofNat (num2 (R.take 8)) := by
    unfold byt
    rw [hd.1, Int.toNat_natCast]
  rw [unb_append, unb_cons, unb_nil, List.append_nil, hby, bits8_of hF hb.1, List.append_assoc, e, h1]

end Go.Proofs.Ytdolmhnajofkoaa
