/- A shift register of 64 bits as plain numbers: a step, that it forgets nothing and is never 0; k steps. No program is named here. -/
namespace Go.Proofs.Ytjcddmelkgmiiaa.Mx

/-- the number of states -/
def M : Nat := 18446744073709551616

theorem lt_M {s : Nat} (h : (s : Int) ≤ 18446744073709551615) : s < M := by
  unfold M
  omega

/-- mixed with itself, shifted to the right, to the left -/
def mr (d s : Nat) : Nat := s ^^^ s / 2 ^ d
def ml (d s : Nat) : Nat := s ^^^ s * 2 ^ d % 18446744073709551616

/-- 0 counts as 1 -/
def nz (s : Nat) : Nat := if s = 0 then 1 else s

/-- the next state -/
def next (s : Nat) : Nat := mr 27 (ml 25 (mr 12 (nz s)))

/-- k states on -/
def skip (s : Nat) : Nat → Nat
  | 0 => s
  | k + 1 => next (skip s k)

theorem mr_lt (d : Nat) {s : Nat} (h : s < M) : mr d s < M := by
  unfold M at *
  have h2 : s / 2 ^ d < 2 ^ 64 := Nat.lt_of_le_of_lt (Nat.div_le_self _ _) h
  exact Nat.xor_lt_two_pow (n := 64) h h2

theorem ml_lt (d : Nat) {s : Nat} (h : s < M) : ml d s < M := by
  unfold M at *
  exact Nat.xor_lt_two_pow (n := 64) h (Nat.mod_lt _ (by decide))

theorem nz_lt {s : Nat} (h : s < M) : nz s < M := by
  unfold nz M at *
  split
  · decide
  · exact h

theorem next_lt {s : Nat} (h : s < M) : next s < M := mr_lt _ (ml_lt _ (mr_lt _ (nz_lt h)))

theorem skip_lt {s : Nat} (h : s < M) : ∀ k, skip s k < M
  | 0 => h
  | k + 1 => next_lt (skip_lt h k)

theorem skip_add (s j : Nat) : ∀ k, skip s (j + k) = skip (skip s j) k
  | 0 => rfl
  | k + 1 => congrArg next (skip_add s j k)

theorem xor_zero_eq {a b : Nat} (h : a ^^^ b = 0) : a = b := by
  have e : (a ^^^ b) ^^^ b = b := by rw [h, Nat.zero_xor]
  rw [Nat.xor_assoc, Nat.xor_self, Nat.xor_zero] at e
  exact e

theorem xor4 (a b c d : Nat) : (a ^^^ b) ^^^ (c ^^^ d) = (a ^^^ c) ^^^ (b ^^^ d) := by
  rw [Nat.xor_assoc, Nat.xor_assoc, ← Nat.xor_assoc b c d, Nat.xor_comm b c, Nat.xor_assoc c b d]

theorem mr_xor (d a b : Nat) : mr d (a ^^^ b) = mr d a ^^^ mr d b := by
  unfold mr
  rw [Nat.xor_div_two_pow, xor4]

theorem mul_xor (d a b : Nat) : (a ^^^ b) * 2 ^ d = a * 2 ^ d ^^^ b * 2 ^ d := by
  rw [← Nat.shiftLeft_eq, ← Nat.shiftLeft_eq, ← Nat.shiftLeft_eq, Nat.shiftLeft_xor_distrib]

theorem ml_xor (d a b : Nat) : ml d (a ^^^ b) = ml d a ^^^ ml d b := by
  unfold ml
  have e : (18446744073709551616 : Nat) = 2 ^ 64 := rfl
  rw [mul_xor, e, Nat.xor_mod_two_pow, xor4]

theorem mr_zero {d x : Nat} (hd : 0 < d) (h : mr d x = 0) : x = 0 := by
  have e : x = x / 2 ^ d := xor_zero_eq h
  have h2 : 2 ≤ 2 ^ d := by
    calc 2 = 2 ^ 1 := rfl
      _ ≤ 2 ^ d := Nat.pow_le_pow_right (by decide) hd
  rcases Nat.eq_zero_or_pos x with h0 | h0
  · exact h0
  · have := Nat.div_lt_self h0 h2
    omega

theorem coprime_ : Nat.Coprime 18446744073709551616 33554431 := by
  show Nat.gcd 18446744073709551616 33554431 = 1
  simp only [Nat.reduceGcd]

theorem dvd_zero {x : Nat} (hx : x < 18446744073709551616) (h : 18446744073709551616 ∣ x * 33554431) : x = 0 :=
  Nat.eq_zero_of_dvd_of_lt (Nat.Coprime.dvd_of_dvd_mul_right coprime_ h) hx

theorem ml_zero {x : Nat} (hx : x < M) (h : ml 25 x = 0) : x = 0 := by
  unfold ml at h
  have e := xor_zero_eq h
  clear h
  unfold M at hx
  have h33 : (2 : Nat) ^ 25 = 33554432 := rfl
  rw [h33] at e
  clear h33
  have hd := Nat.div_add_mod (x * 33554432) 18446744073709551616
  rw [← e] at hd
  exact dvd_zero hx ⟨_, Nat.add_right_cancel ((Nat.mul_succ x 33554431).symm.trans hd.symm)⟩

theorem mr_inj {d a b : Nat} (hd : 0 < d) (h : mr d a = mr d b) : a = b := by
  refine xor_zero_eq (mr_zero hd ?_)
  rw [mr_xor, h, Nat.xor_self]

theorem ml_inj {a b : Nat} (ha : a < M) (hb : b < M) (h : ml 25 a = ml 25 b) : a = b := by
  refine xor_zero_eq (ml_zero (Nat.xor_lt_two_pow (n := 64) ha hb) ?_)
  rw [ml_xor, h, Nat.xor_self]

theorem nz_pos (s : Nat) : nz s ≠ 0 := by
  unfold nz
  split <;> omega

theorem next_ne {s : Nat} (h : s < M) : next s ≠ 0 := fun e => nz_pos s (mr_zero (by decide) (ml_zero (mr_lt _ (nz_lt h)) (mr_zero (by decide) e)))

theorem next_inj {a b : Nat} (ha : a < M) (hb : b < M) (ha0 : a ≠ 0) (hb0 : b ≠ 0) (h : next a = next b) : a = b := by
  have e := mr_inj (by decide) (ml_inj (mr_lt _ (nz_lt ha)) (mr_lt _ (nz_lt hb)) (mr_inj (by decide) h))
  unfold nz at e
  rw [if_neg ha0, if_neg hb0] at e
  exact e

theorem next_nz (s : Nat) : next (nz s) = next s := by
  unfold next
  rw [show nz (nz s) = nz s from by unfold nz; split <;> simp_all]

end Go.Proofs.Ytjcddmelkgmiiaa.Mx
