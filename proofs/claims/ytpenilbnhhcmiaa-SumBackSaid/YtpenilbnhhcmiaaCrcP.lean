/- CRC-32 with reflected bits, as plain numbers: one step, eight of them, a list of bytes; that it is linear, that it forgets nothing, that eight steps are a look into a table. No program is named here. -/
namespace Go.Proofs.Ytpenilbnhhcmiaa.Crc

/-- the polynomial, and all ones -/
def poly : Nat := 3988292384
def ones : Nat := 4294967295

/-- one step of the register -/
def step (c : Nat) : Nat := if c % 2 = 1 then c / 2 ^^^ poly else c / 2

/-- k steps -/
def steps : Nat → Nat → Nat
  | 0, c => c
  | k + 1, c => steps k (step c)

/-- the register behind a list of bytes -/
def reg (c : Nat) (l : List UInt8) : Nat := l.foldl (fun c b => steps 8 (c ^^^ b.toNat)) c

/-- the checksum behind another -/
def on (s : Nat) (l : List UInt8) : Nat := reg (s ^^^ ones) l ^^^ ones

theorem step_lt {c : Nat} (h : c < 4294967296) : step c < 4294967296 := by
  unfold step
  have h2 : c / 2 < 2 ^ 32 := by omega
  split
  · exact Nat.xor_lt_two_pow h2 (by decide)
  · omega

theorem steps_lt (k : Nat) : ∀ {c : Nat}, c < 4294967296 → steps k c < 4294967296 := by
  induction k with
  | zero => intro c h; exact h
  | succ k ih => intro c h; exact ih (step_lt h)

theorem xor_byte_lt {c : Nat} (h : c < 4294967296) (b : UInt8) : c ^^^ b.toNat < 4294967296 := by
  have := b.toNat_lt
  exact Nat.xor_lt_two_pow (n := 32) (by omega) (by omega)

theorem reg_lt (l : List UInt8) : ∀ {c : Nat}, c < 4294967296 → reg c l < 4294967296 := by
  induction l with
  | nil => intro c h; exact h
  | cons b l ih => intro c h; exact ih (steps_lt 8 (xor_byte_lt h b))

theorem on_lt {s : Nat} (h : s < 4294967296) (l : List UInt8) : on s l < 4294967296 :=
  Nat.xor_lt_two_pow (n := 32) (reg_lt l (Nat.xor_lt_two_pow (n := 32) h (by decide))) (by decide)

theorem step_xor (x y : Nat) : step (x ^^^ y) = step x ^^^ step y := by
  unfold step
  have hd : (x ^^^ y) / 2 = x / 2 ^^^ y / 2 := Nat.xor_div_two
  have hm : ((x ^^^ y) % 2 = 1) ↔ ¬ (x % 2 = 1 ↔ y % 2 = 1) := Nat.xor_mod_two_eq_one
  have hx : ∀ a b c : Nat, (a ^^^ c) ^^^ (b ^^^ c) = a ^^^ b := by
    intro a b c
    rw [Nat.xor_assoc, ← Nat.xor_assoc c b c, Nat.xor_comm c b, Nat.xor_assoc b c c, Nat.xor_self, Nat.xor_zero]
  rw [hd]
  by_cases h1 : x % 2 = 1 <;> by_cases h2 : y % 2 = 1
  · rw [if_neg (by rw [hm]; simp [h1, h2]), if_pos h1, if_pos h2, hx]
  · rw [if_pos (by rw [hm]; simp [h1, h2]), if_pos h1, if_neg h2, Nat.xor_assoc, Nat.xor_assoc, Nat.xor_comm poly]
  · rw [if_pos (by rw [hm]; simp [h1, h2]), if_neg h1, if_pos h2, Nat.xor_assoc]
  · rw [if_neg (by rw [hm]; simp [h1, h2]), if_neg h1, if_neg h2]

theorem steps_xor (k : Nat) : ∀ x y : Nat, steps k (x ^^^ y) = steps k x ^^^ steps k y := by
  induction k with
  | zero => intro x y; rfl
  | succ k ih => intro x y; show steps k (step (x ^^^ y)) = _; rw [step_xor, ih]; rfl

theorem step_zero : step 0 = 0 := by decide

theorem steps_zero (k : Nat) : steps k 0 = 0 := by
  induction k with
  | zero => rfl
  | succ k ih => show steps k (step 0) = 0; rw [step_zero, ih]

theorem step_inj0 {x : Nat} (hx : x < 4294967296) (h : step x = 0) : x = 0 := by
  unfold step at h
  split at h
  · have e : x / 2 = poly := by
      have h2 := congrArg (· ^^^ poly) h
      simp only [Nat.xor_assoc, Nat.xor_self, Nat.xor_zero, Nat.zero_xor] at h2
      exact h2
    unfold poly at e
    omega
  · omega

theorem steps_inj0 (k : Nat) : ∀ {x : Nat}, x < 4294967296 → steps k x = 0 → x = 0 := by
  induction k with
  | zero => intro x _ h; exact h
  | succ k ih => intro x hx h; exact step_inj0 hx (ih (step_lt hx) h)

theorem xor_eq_zero {x y : Nat} (h : x ^^^ y = 0) : x = y := by
  have h2 := congrArg (· ^^^ y) h
  simp only [Nat.xor_assoc, Nat.xor_self, Nat.xor_zero, Nat.zero_xor] at h2
  exact h2

theorem steps_inj (k : Nat) {x y : Nat} (hx : x < 4294967296) (hy : y < 4294967296) (h : steps k x = steps k y) : x = y := by
  refine xor_eq_zero (steps_inj0 k (Nat.xor_lt_two_pow (n := 32) hx hy) ?_)
  rw [steps_xor, h, Nat.xor_self]

theorem reg_append (c : Nat) (l m : List UInt8) : reg c (l ++ m) = reg (reg c l) m := by unfold reg; rw [List.foldl_append]

/-- the register is not forgotten -/
theorem reg_inj (l : List UInt8) : ∀ {c d : Nat}, c < 4294967296 → d < 4294967296 → reg c l = reg d l → c = d := by
  induction l with
  | nil => intro c d _ _ h; exact h
  | cons b l ih =>
    intro c d hc hd h
    have h1 := ih (steps_lt 8 (xor_byte_lt hc b)) (steps_lt 8 (xor_byte_lt hd b)) h
    have h2 := steps_inj 8 (xor_byte_lt hc b) (xor_byte_lt hd b) h1
    have h3 := congrArg (· ^^^ b.toNat) h2
    simp only [Nat.xor_assoc, Nat.xor_self, Nat.xor_zero] at h3
    exact h3

/-- a changed byte changes the register -/
theorem reg_changed (p q : List UInt8) {b b' : UInt8} (hb : b ≠ b') {c : Nat} (hc : c < 4294967296) : reg c (p ++ b :: q) ≠ reg c (p ++ b' :: q) := by
  intro h
  rw [reg_append, reg_append] at h
  have hp := reg_lt p hc
  have h1 := reg_inj q (steps_lt 8 (xor_byte_lt hp b)) (steps_lt 8 (xor_byte_lt hp b')) h
  have h2 := steps_inj 8 (xor_byte_lt hp b) (xor_byte_lt hp b') h1
  have h3 := congrArg (reg c p ^^^ ·) h2
  simp only [← Nat.xor_assoc, Nat.xor_self, Nat.zero_xor] at h3
  exact hb (UInt8.toNat_inj.1 h3)

theorem on_changed (p q : List UInt8) {b b' : UInt8} (hb : b ≠ b') {s : Nat} (hs : s < 4294967296) : on s (p ++ b :: q) ≠ on s (p ++ b' :: q) := by
  intro h
  have h3 := congrArg (· ^^^ ones) h
  simp only [on, Nat.xor_assoc, Nat.xor_self, Nat.xor_zero] at h3
  exact reg_changed p q hb (Nat.xor_lt_two_pow (n := 32) hs (by decide)) h3

/-- a checksum is gone on with -/
theorem on_append (s : Nat) (l m : List UInt8) : on (on s l) m = on s (l ++ m) := by
  unfold on
  rw [Nat.xor_assoc, Nat.xor_self, Nat.xor_zero, reg_append]

theorem on_nil (s : Nat) : on s [] = s := by
  show (s ^^^ ones) ^^^ ones = s
  rw [Nat.xor_assoc, Nat.xor_self, Nat.xor_zero]

/-- eight steps are a look into a table of 256 -/
theorem step_double (y : Nat) : step (2 * y) = y := by
  unfold step
  rw [if_neg (by omega)]
  omega

theorem steps_shift (k : Nat) : ∀ y : Nat, steps k (2 ^ k * y) = y := by
  induction k with
  | zero => intro y; simp [steps]
  | succ k ih =>
    intro y
    show steps k (step (2 ^ (k + 1) * y)) = y
    rw [Nat.pow_succ, Nat.mul_comm (2 ^ k) 2, Nat.mul_assoc, step_double, ih]

theorem split_byte (x : Nat) : x = x % 256 ^^^ 2 ^ 8 * (x / 256) := by
  have h := Nat.shiftLeft_add_eq_or_of_lt (i := 8) (b := x % 256) (Nat.mod_lt _ (by decide)) (x / 256)
  have hx : x % 256 ^^^ 2 ^ 8 * (x / 256) = (x / 256) <<< 8 ||| x % 256 := by
    rw [Nat.shiftLeft_eq, Nat.mul_comm (x / 256)]
    apply Nat.eq_of_testBit_eq
    intro i
    rw [Nat.testBit_xor, Nat.testBit_or]
    have hlow : 8 ≤ i → (x % 256).testBit i = false := fun hi => Nat.testBit_lt_two_pow (Nat.lt_of_lt_of_le (Nat.mod_lt _ (by decide)) (Nat.pow_le_pow_right (n := 2) (by decide) hi))
    have hhigh : i < 8 → (2 ^ 8 * (x / 256)).testBit i = false := fun hi => by rw [Nat.testBit_two_pow_mul]; simp; omega
    by_cases hi : i < 8
    · rw [hhigh hi]; simp
    · rw [hlow (by omega)]; simp
  rw [hx, ← h, Nat.shiftLeft_eq]
  omega

theorem steps8_table (x : Nat) : steps 8 x = steps 8 (x % 256) ^^^ x / 256 := by
  conv => lhs; rw [split_byte x]
  rw [steps_xor, steps_shift]

/-- the sums of lists that are turned bit for bit -/
theorem reg_xor3 (l : List (UInt8 × UInt8 × UInt8)) : ∀ a b c : Nat,
    reg (a ^^^ b ^^^ c) (l.map fun x => x.1 ^^^ x.2.1 ^^^ x.2.2) = reg a (l.map fun x => x.1) ^^^ reg b (l.map fun x => x.2.1) ^^^ reg c (l.map fun x => x.2.2) := by
  induction l with
  | nil => intro a b c; rfl
  | cons x l ih =>
    intro a b c
    obtain ⟨p, q, r⟩ := x
    show reg (steps 8 ((a ^^^ b ^^^ c) ^^^ (p ^^^ q ^^^ r).toNat)) _ = _
    have e : (a ^^^ b ^^^ c) ^^^ (p ^^^ q ^^^ r).toNat = (a ^^^ p.toNat) ^^^ (b ^^^ q.toNat) ^^^ (c ^^^ r.toNat) := by
      rw [UInt8.toNat_xor, UInt8.toNat_xor]
      apply Nat.eq_of_testBit_eq
      intro i
      simp only [Nat.testBit_xor]
      cases a.testBit i <;> cases b.testBit i <;> cases c.testBit i <;> cases p.toNat.testBit i <;> cases q.toNat.testBit i <;> cases r.toNat.testBit i <;> rfl
    rw [e, steps_xor, steps_xor, ih]
    rfl

theorem on_xor3 (l : List (UInt8 × UInt8 × UInt8)) :
    on 0 (l.map fun x => x.1) ^^^ on 0 (l.map fun x => x.2.1) ^^^ on 0 (l.map fun x => x.2.2) = on 0 (l.map fun x => x.1 ^^^ x.2.1 ^^^ x.2.2) := by
  unfold on
  simp only [Nat.zero_xor]
  have h := reg_xor3 l ones ones ones
  have e : ones ^^^ ones ^^^ ones = ones := by decide
  rw [e] at h
  rw [h]
  apply Nat.eq_of_testBit_eq
  intro i
  simp only [Nat.testBit_xor]
  cases (reg ones (l.map fun x => x.1)).testBit i <;> cases (reg ones (l.map fun x => x.2.1)).testBit i <;> cases (reg ones (l.map fun x => x.2.2)).testBit i <;> cases ones.testBit i <;> rfl

theorem example_nine : on 0 [49, 50, 51, 52, 53, 54, 55, 56, 57] = 3421780262 := by decide +kernel

end Go.Proofs.Ytpenilbnhhcmiaa.Crc
