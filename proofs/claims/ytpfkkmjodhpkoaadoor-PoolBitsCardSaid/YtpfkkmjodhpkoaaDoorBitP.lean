/- Codes as bits, bits as bytes, and back: plain functions on lists. No function of the program is named here. -/
import Derived.Test.YtpfkkmjodhpkoaaDoorBase
namespace Go.Proofs.YtpfkkmjodhpkoaaDoor

/-- the five bits of a code, the greatest first; the eight of a byte -/
def bits5 (z : Int) : List Nat := [(z % 32).toNat / 16 % 2, (z % 32).toNat / 8 % 2, (z % 32).toNat / 4 % 2, (z % 32).toNat / 2 % 2, (z % 32).toNat % 2]
def bits8 (c : UInt8) : List Nat := [c.toNat / 128 % 2, c.toNat / 64 % 2, c.toNat / 32 % 2, c.toNat / 16 % 2, c.toNat / 8 % 2, c.toNat / 4 % 2, c.toNat / 2 % 2, c.toNat % 2]

/-- the number that bits are -/
def num2 (l : List Nat) : Nat := l.foldl (fun n b => 2 * n + b) 0

/-- the bits of bytes; bits as bytes, eight each, the last ones filled up with zeros -/
def unb (l : List UInt8) : List Nat := l.flatMap bits8
def pad (n : Nat) : List Nat := List.replicate ((8 - n % 8) % 8) 0
def by8 : List Nat → List UInt8
  | a :: b :: c :: d :: e :: f :: g :: h :: r => UInt8.ofNat (num2 [a, b, c, d, e, f, g, h]) :: by8 r
  | _ => []

/-- the bits of codes, the end code behind them -/
def raw (l : List Int) : List Nat := l.flatMap bits5 ++ bits5 31
/-- codes as bytes -/
def packL (l : List Int) : List UInt8 := by8 (raw l ++ pad (raw l).length)

/-- what is read out of bits -/
inductive Unp where
  | ok (l : List Int)
  | short
  | long
  | form
deriving DecidableEq

def unp (acc : List Int) : List Nat → Unp
  | a :: b :: c :: d :: e :: r =>
    if num2 [a, b, c, d, e] = 31 then (if 8 ≤ r.length then .long else if r.any (fun x => x == 1) then .form else .ok acc)
    else unp (acc ++ [(num2 [a, b, c, d, e] : Int)]) r
  | _ => .short

theorem unp_five (acc : List Int) (a b c d e : Nat) (r : List Nat) : unp acc (a :: b :: c :: d :: e :: r) =
    if num2 [a, b, c, d, e] = 31 then (if 8 ≤ r.length then .long else if r.any (fun x => x == 1) then .form else .ok acc)
    else unp (acc ++ [(num2 [a, b, c, d, e] : Int)]) r := rfl

def unpackL (b : List UInt8) : Unp := unp [] (unb b)

/-- only 0 and 1 -/
def isBits (l : List Nat) : Prop := ∀ x ∈ l, x < 2

theorem bits5_len (z : Int) : (bits5 z).length = 5 := rfl
theorem bits8_len (c : UInt8) : (bits8 c).length = 8 := rfl
theorem unb_nil : unb [] = [] := rfl
theorem unb_cons (c : UInt8) (l : List UInt8) : unb (c :: l) = bits8 c ++ unb l := rfl
theorem unb_append (l m : List UInt8) : unb (l ++ m) = unb l ++ unb m := by unfold unb; rw [List.flatMap_append]
theorem unb_len (l : List UInt8) : (unb l).length = 8 * l.length := by
  induction l with
  | nil => rfl
  | cons c l ih => rw [unb_cons, List.length_append, bits8_len, ih, List.length_cons]; omega
theorem flat5_len (l : List Int) : (l.flatMap bits5).length = 5 * l.length := by
  induction l with
  | nil => rfl
  | cons c l ih => rw [List.flatMap_cons, List.length_append, bits5_len, ih, List.length_cons]; omega
theorem raw_len (l : List Int) : (raw l).length = 5 * l.length + 5 := by
  unfold raw; rw [List.length_append, flat5_len, bits5_len]

theorem isBits_append {l m : List Nat} : isBits (l ++ m) ↔ isBits l ∧ isBits m := by
  unfold isBits
  constructor
  · intro h
    exact ⟨fun x hx => h x (List.mem_append_left _ hx), fun x hx => h x (List.mem_append_right _ hx)⟩
  · rintro ⟨h1, h2⟩ x hx
    rcases List.mem_append.1 hx with hx | hx
    · exact h1 x hx
    · exact h2 x hx

theorem isBits_5 (z : Int) : isBits (bits5 z) := by
  intro x hx
  simp [bits5] at hx
  omega
theorem isBits_8 (c : UInt8) : isBits (bits8 c) := by
  intro x hx
  simp [bits8] at hx
  omega
theorem isBits_flat5 (l : List Int) : isBits (l.flatMap bits5) := by
  intro x hx
  rw [List.mem_flatMap] at hx
  obtain ⟨z, _, h⟩ := hx
  exact isBits_5 z x h
theorem isBits_unb (l : List UInt8) : isBits (unb l) := by
  intro x hx
  unfold unb at hx
  rw [List.mem_flatMap] at hx
  obtain ⟨z, _, h⟩ := hx
  exact isBits_8 z x h
theorem isBits_pad (n : Nat) : isBits (pad n) := by
  intro x hx
  have := List.eq_of_mem_replicate hx
  omega
theorem isBits_raw (l : List Int) : isBits (raw l) := by
  unfold raw
  rw [isBits_append]
  exact ⟨isBits_flat5 l, isBits_5 31⟩

theorem num2_5 (z : Int) : num2 (bits5 z) = (z % 32).toNat := by
  have h0 : (z % 32).toNat < 32 := by omega
  unfold bits5
  generalize (z % 32).toNat = n at *
  simp only [num2, List.foldl_cons, List.foldl_nil]
  omega

theorem num2_8 (c : UInt8) : num2 (bits8 c) = c.toNat := by
  have h0 := c.toNat_lt
  unfold bits8
  generalize c.toNat = n at *
  simp only [num2, List.foldl_cons, List.foldl_nil]
  omega

theorem num2_snoc (l : List Nat) (b : Nat) : num2 (l ++ [b]) = 2 * num2 l + b := by
  unfold num2
  rw [List.foldl_append]
  rfl

theorem num2_lt : ∀ (n : Nat) (l : List Nat), l.length = n → isBits l → num2 l < 2 ^ n := by
  intro n
  induction n with
  | zero => intro l h _; rw [List.eq_nil_of_length_eq_zero h]; decide
  | succ n ih =>
    intro l h hb
    have hne : l ≠ [] := by rintro rfl; simp at h
    have e := List.dropLast_concat_getLast hne
    rw [← e] at hb ⊢
    rw [isBits_append] at hb
    have h1 := ih l.dropLast (by rw [List.length_dropLast]; omega) hb.1
    have h2 := hb.2 _ (List.mem_singleton.2 rfl)
    rw [num2_snoc, Nat.pow_succ]
    omega

theorem eight {l : List Nat} (h : l.length = 8) : ∃ a b c d e f g k, l = [a, b, c, d, e, f, g, k] := by
  match l, h with
  | [a, b, c, d, e, f, g, k], _ => exact ⟨a, b, c, d, e, f, g, k, rfl⟩

/-- eight bits are the bits of their number -/
theorem bits8_num2 {a b c d e f g h : Nat} (hb : isBits [a, b, c, d, e, f, g, h]) : bits8 (UInt8.ofNat (num2 [a, b, c, d, e, f, g, h])) = [a, b, c, d, e, f, g, h] := by
  have h1 := hb a (by simp)
  have h2 := hb b (by simp)
  have h3 := hb c (by simp)
  have h4 := hb d (by simp)
  have h5 := hb e (by simp)
  have h6 := hb f (by simp)
  have h7 := hb g (by simp)
  have h8 := hb h (by simp)
  have hn : num2 [a, b, c, d, e, f, g, h] < 256 := by
    simp only [num2, List.foldl_cons, List.foldl_nil]
    omega
  have e1 : (UInt8.ofNat (num2 [a, b, c, d, e, f, g, h])).toNat = num2 [a, b, c, d, e, f, g, h] := by
    rw [UInt8.toNat_ofNat']
    omega
  unfold bits8
  rw [e1]
  simp only [num2, List.foldl_cons, List.foldl_nil, List.cons.injEq, and_true]
  clear e1 hn hb
  refine ⟨?_, ?_, ?_, ?_, ?_, ?_, ?_, ?_⟩ <;> omega

theorem bits8_of {l : List Nat} (h : l.length = 8) (hb : isBits l) : bits8 (UInt8.ofNat (num2 l)) = l := by
  obtain ⟨a, b, c, d, e, f, g, k, rfl⟩ := eight h
  exact bits8_num2 hb

theorem bits5_num2 {a b c d e : Nat} (hb : isBits [a, b, c, d, e]) : bits5 ((num2 [a, b, c, d, e] : Nat) : Int) = [a, b, c, d, e] := by
  have h1 := hb a (by simp)
  have h2 := hb b (by simp)
  have h3 := hb c (by simp)
  have h4 := hb d (by simp)
  have h5 := hb e (by simp)
  have hn : num2 [a, b, c, d, e] < 32 := by
    simp only [num2, List.foldl_cons, List.foldl_nil]
    omega
  have e1 : (((num2 [a, b, c, d, e] : Nat) : Int) % 32).toNat = num2 [a, b, c, d, e] := by omega
  unfold bits5
  rw [e1]
  simp only [num2, List.foldl_cons, List.foldl_nil, List.cons.injEq, and_true]
  clear e1 hn hb
  refine ⟨?_, ?_, ?_, ?_, ?_⟩ <;> omega

/-- bits in eights, and back -/
theorem unb_by8 : ∀ (n : Nat) (l : List Nat), l.length = 8 * n → isBits l → unb (by8 l) = l := by
  intro n
  induction n with
  | zero => intro l h _; rw [List.eq_nil_of_length_eq_zero h]; rfl
  | succ n ih =>
    intro l h hb
    match l, h, hb with
    | a :: b :: c :: d :: e :: f :: g :: k :: r, h, hb =>
      have hb2 : isBits ([a, b, c, d, e, f, g, k] ++ r) := hb
      rw [isBits_append] at hb2
      have h3 : r.length = 8 * n := by
        simp only [List.length_cons] at h
        omega
      show unb (UInt8.ofNat (num2 [a, b, c, d, e, f, g, k]) :: by8 r) = _
      rw [unb_cons, bits8_num2 hb2.1, ih r h3 hb2.2]
      rfl

theorem by8_unb (l : List UInt8) : by8 (unb l) = l := by
  induction l with
  | nil => rfl
  | cons c l ih =>
    show UInt8.ofNat (num2 (bits8 c)) :: by8 (unb l) = _
    rw [ih, num2_8]
    simp

theorem unb_inj {l m : List UInt8} (h : unb l = unb m) : l = m := by rw [← by8_unb l, h, by8_unb]

theorem pad_len (n : Nat) : (pad n).length = (8 - n % 8) % 8 := by unfold pad; rw [List.length_replicate]

theorem unb_packL (l : List Int) : unb (packL l) = raw l ++ pad (raw l).length := by
  unfold packL
  refine unb_by8 (((raw l).length + (8 - (raw l).length % 8) % 8) / 8) _ ?_ ?_
  · rw [List.length_append, pad_len]; omega
  · rw [isBits_append]; exact ⟨isBits_raw l, isBits_pad _⟩

/-- reading goes on over whole codes -/
theorem unp_flat (l : List Int) : ∀ (acc : List Int) (r : List Nat), (∀ z ∈ l, 0 ≤ z ∧ z ≤ 30) → unp acc (l.flatMap bits5 ++ r) = unp (acc ++ l) r := by
  induction l with
  | nil => intro acc r _; rw [List.append_nil]; rfl
  | cons z l ih =>
    intro acc r h
    have hz := h z (by simp)
    have e := num2_5 z
    have e2 : (z % 32).toNat = z.toNat := by omega
    rw [e2] at e
    rw [List.flatMap_cons, List.append_assoc]
    show unp acc (_ :: _ :: _ :: _ :: _ :: (l.flatMap bits5 ++ r)) = _
    rw [unp_five, if_neg (by change ¬ num2 (bits5 z) = 31; omega)]
    have e3 : ((num2 (bits5 z) : Nat) : Int) = z := by omega
    change unp (acc ++ [((num2 (bits5 z) : Nat) : Int)]) _ = _
    rw [e3, ih _ _ (fun y hy => h y (by simp [hy])), List.append_assoc]
    rfl

theorem any_pad (n : Nat) : (pad n).any (fun x => x == 1) = false := by
  rw [List.any_eq_false]
  intro x hx
  rw [List.eq_of_mem_replicate hx]
  decide

theorem unp_end (acc : List Int) (r : List Nat) (h : r.length < 8) (h2 : r.any (fun x => x == 1) = false) : unp acc (bits5 31 ++ r) = .ok acc := by
  show unp acc (1 :: 1 :: 1 :: 1 :: 1 :: r) = _
  unfold unp
  rw [if_pos (by decide), if_neg (by omega), h2]
  rfl

/-- codes below 31 come back -/
theorem unpack_pack (l : List Int) (h : ∀ z ∈ l, 0 ≤ z ∧ z ≤ 30) : unpackL (packL l) = .ok l := by
  unfold unpackL
  rw [unb_packL]
  have e : raw l ++ pad (raw l).length = l.flatMap bits5 ++ (bits5 31 ++ pad (raw l).length) := by
    unfold raw
    rw [List.append_assoc]
  rw [e, unp_flat l [] _ h, List.nil_append]
  exact unp_end _ _ (by rw [pad_len]; omega) (any_pad _)

/-- what was read: the bits that it was read out of -/
theorem unp_ok : ∀ (n : Nat) (acc l : List Int) (u : List Nat), u.length ≤ n → isBits u → unp acc u = .ok l → ∃ m r, l = acc ++ m ∧ u = m.flatMap bits5 ++ bits5 31 ++ r ∧ r.length < 8 ∧ r.any (fun x => x == 1) = false := by
  intro n
  induction n with
  | zero =>
    intro acc l u hu _ h
    rw [List.eq_nil_of_length_eq_zero (by omega : u.length = 0)] at h
    cases h
  | succ n ih =>
    intro acc l u hu hb h
    match u, hu, hb, h with
    | [], _, _, h => cases h
    | [_], _, _, h => cases h
    | [_, _], _, _, h => cases h
    | [_, _, _], _, _, h => cases h
    | [_, _, _, _], _, _, h => cases h
    | a :: b :: c :: d :: e :: r, hu, hb, h =>
      have hb2 : isBits ([a, b, c, d, e] ++ r) := hb
      rw [isBits_append] at hb2
      have hq := bits5_num2 hb2.1
      unfold unp at h
      split at h
      · rename_i h31
        split at h
        · cases h
        · split at h
          · cases h
          · rename_i h8 hany
            have h9 : acc = l := by injection h
            refine ⟨[], r, by rw [h9, List.append_nil], ?_, by omega, by rw [Bool.not_eq_true] at hany; exact hany⟩
            rw [h31] at hq
            show _ = bits5 31 ++ r
            have hq2 : bits5 31 = [a, b, c, d, e] := hq
            rw [hq2]
            rfl
      · obtain ⟨m, r2, hl, hu2, h8, hany⟩ := ih _ _ r (by simp only [List.length_cons] at hu; omega) hb2.2 h
        refine ⟨((num2 [a, b, c, d, e] : Nat) : Int) :: m, r2, by rw [hl, List.append_assoc]; rfl, ?_, h8, hany⟩
        rw [List.flatMap_cons, hq, hu2]
        simp

theorem zeros_eq : ∀ (r : List Nat), isBits r → r.any (fun x => x == 1) = false → r = List.replicate r.length 0 := by
  intro r
  induction r with
  | nil => intro _ _; rfl
  | cons x r ih =>
    intro hb h
    have hx := hb x (by simp)
    simp only [List.any_cons, Bool.or_eq_false_iff, beq_eq_false_iff_ne] at h
    rw [List.length_cons, List.replicate_succ, ← ih (fun y hy => hb y (by simp [hy])) h.2]
    rw [show x = 0 from by omega]

/-- bytes that are read without a fault come back -/
theorem pack_unpack (b : List UInt8) (l : List Int) (h : unpackL b = .ok l) : packL l = b := by
  obtain ⟨m, r, hl, hu, h8, hany⟩ := unp_ok _ [] l (unb b) (Nat.le_refl _) (isBits_unb b) h
  rw [List.nil_append] at hl
  subst hl
  apply unb_inj
  have hr : isBits r := by
    have hb := isBits_unb b
    rw [hu, isBits_append] at hb
    exact hb.2
  have hlen := congrArg List.length hu
  rw [unb_len, List.length_append] at hlen
  change _ = (raw l).length + r.length at hlen
  rw [unb_packL, hu, zeros_eq r hr hany]
  change raw l ++ pad (raw l).length = raw l ++ List.replicate r.length 0
  unfold pad
  rw [show (8 - (raw l).length % 8) % 8 = r.length from by omega]

end Go.Proofs.YtpfkkmjodhpkoaaDoor
