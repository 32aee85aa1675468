/- Texts as codes, codes as bits, bits as bytes: plain functions on lists. No function of the program is named here. -/
import Derived.Test.YtgeglhgkibcpfaaDoorLetP
namespace Go.Proofs.YtgeglhgkibcpfaaDoor

/-- the symbols -/
def sgL : List UInt8 := [48, 49, 50, 51, 52, 53, 54, 55, 56, 57, 46, 44, 33, 63, 39, 34, 45, 58, 59, 40, 41, 47, 38, 42, 43, 61, 37, 35, 36, 10, 60]

/-- the codes of a byte -/
def oneL (c : UInt8) : List Int :=
  if c.toNat = 32 then [0] else if isSm c then [(c.toNat : Int) - 96] else if isCp c then [27, (c.toNat : Int) - 64]
  else if sgL.idxOf c < 31 then [28, (sgL.idxOf c : Int)] else [29, (c.toNat : Int) / 16, (c.toNat : Int) % 16]

/-- the codes of bytes -/
def codes (l : List UInt8) : List Int := l.flatMap oneL

/-- how many codes bytes have -/
def costL (l : List UInt8) : Nat := ((l.filter isTx).flatMap oneL).length

theorem codes_nil : codes [] = [] := rfl
theorem codes_cons (c : UInt8) (l : List UInt8) : codes (c :: l) = oneL c ++ codes l := rfl
theorem codes_append (l m : List UInt8) : codes (l ++ m) = codes l ++ codes m := by unfold codes; rw [List.flatMap_append]
theorem codes_snoc (l : List UInt8) (c : UInt8) : codes (l ++ [c]) = codes l ++ oneL c := by rw [codes_append, codes_cons, codes_nil, List.append_nil]

theorem oneL_len (c : UInt8) : 1 ≤ (oneL c).length ∧ (oneL c).length ≤ 3 := by
  unfold oneL
  repeat' split
  all_goals simp

theorem oneL_range (c : UInt8) : ∀ z ∈ oneL c, 0 ≤ z ∧ z ≤ 30 := by
  have := c.toNat_lt
  intro z hz
  unfold oneL at hz
  split at hz
  · simp at hz; omega
  · split at hz
    · rename_i h
      simp [isSm] at h hz
      omega
    · split at hz
      · rename_i h
        simp [isCp] at h hz
        omega
      · split at hz
        · simp at hz; omega
        · simp at hz; omega

/-- the byte whose codes come first -/
def decL : List Int → Nat
  | [] => 0
  | x :: r => if x = 0 then 32 else if x = 27 then (r.headD 0 + 64).toNat else if x = 28 then ((sgL[(r.headD 0).toNat]?).getD 0).toNat
    else if x = 29 then (r.headD 0 * 16 + (r.tail.headD 0)).toNat else (x + 96).toNat

theorem decL_one (c : UInt8) (r : List Int) : decL (oneL c ++ r) = c.toNat := by
  have := c.toNat_lt
  unfold oneL
  split
  · simp [decL]; omega
  · split
    · rename_i h
      simp [isSm] at h
      have h1 : ¬ (c.toNat : Int) - 96 = 0 := by omega
      have h2 : ¬ (c.toNat : Int) - 96 = 27 := by omega
      have h3 : ¬ (c.toNat : Int) - 96 = 28 := by omega
      have h4 : ¬ (c.toNat : Int) - 96 = 29 := by omega
      simp only [decL, List.cons_append, List.nil_append, if_neg h1, if_neg h2, if_neg h3, if_neg h4]
      omega
    · split
      · rename_i h
        simp [isCp] at h
        simp [decL]
      · split
        · rename_i h
          have hl : sgL.idxOf c < sgL.length := h
          have e : sgL[sgL.idxOf c] = c := List.getElem_idxOf hl
          simp only [decL, List.cons_append, List.nil_append, List.headD_cons, Int.toNat_natCast]
          rw [List.getElem?_eq_getElem hl, e]
          simp
        · simp [decL]; omega

theorem oneL_inj {c d : UInt8} {r r' : List Int} (h : oneL c ++ r = oneL d ++ r') : c = d ∧ r = r' := by
  have e : c.toNat = d.toNat := by rw [← decL_one c r, h, decL_one]
  have e2 : c = d := UInt8.toNat_inj.1 e
  subst e2
  exact ⟨rfl, List.append_cancel_left h⟩

theorem codes_split {s t : List UInt8} : ∀ {r : List Int}, codes s ++ r = codes t → ∃ u, t = s ++ u ∧ codes u = r := by
  induction s generalizing t with
  | nil => intro r h; exact ⟨t, rfl, h.symm⟩
  | cons c s ih =>
    intro r h
    rw [codes_cons, List.append_assoc] at h
    cases t with
    | nil =>
      have h1 := (oneL_len c).1
      have h2 := congrArg List.length h
      rw [codes_nil, List.length_append, List.length_nil] at h2
      omega
    | cons d t =>
      rw [codes_cons] at h
      obtain ⟨rfl, h2⟩ := oneL_inj h
      obtain ⟨u, hu, hr⟩ := ih h2
      exact ⟨u, by rw [hu]; rfl, hr⟩

theorem codes_inj {s t : List UInt8} (h : codes s = codes t) : s = t := by
  obtain ⟨u, hu, hr⟩ := codes_split (s := s) (t := t) (r := []) (by rw [List.append_nil]; exact h)
  cases u with
  | nil => rw [hu, List.append_nil]
  | cons c u =>
    have h1 := (oneL_len c).1
    have h2 := congrArg List.length hr
    rw [codes_cons, List.length_append, List.length_nil] at h2
    omega

theorem codes_len (l : List UInt8) : l.length ≤ (codes l).length ∧ (codes l).length ≤ 3 * l.length := by
  induction l with
  | nil => simp [codes_nil]
  | cons c l ih =>
    have := oneL_len c
    rw [codes_cons, List.length_append, List.length_cons]
    omega

theorem codes_range (l : List UInt8) : ∀ z ∈ codes l, 0 ≤ z ∧ z ≤ 30 := by
  intro z hz
  unfold codes at hz
  rw [List.mem_flatMap] at hz
  obtain ⟨c, _, hc⟩ := hz
  exact oneL_range c z hc

theorem costL_nil : costL [] = 0 := rfl
theorem costL_append (l m : List UInt8) : costL (l ++ m) = costL l + costL m := by
  unfold costL
  rw [List.filter_append, List.flatMap_append, List.length_append]
theorem costL_one (c : UInt8) : costL [c] = if isTx c then (oneL c).length else 0 := by
  unfold costL
  by_cases h : isTx c = true
  · rw [if_pos h]; simp [h]
  · rw [if_neg h]; simp [h]
theorem costL_text {l : List UInt8} (h : l.all isTx = true) : costL l = (codes l).length := by
  unfold costL codes
  rw [List.filter_eq_self.2 (List.all_eq_true.1 h)]
theorem costL_le (l : List UInt8) : costL l ≤ 3 * l.length := by
  have h1 := (codes_len (l.filter isTx)).2
  have h2 := List.length_filter_le isTx l
  unfold costL
  unfold codes at h1
  omega

/-- no text has codes that begin with those of s and go on with r, if no byte of a text begins r -/
theorem no_text {s t : List UInt8} {r : List Int} (ht : t.all isTx = true) (h : codes t = codes s ++ r) (hr : r ≠ []) : ∃ c r', isTx c = true ∧ r = oneL c ++ r' := by
  obtain ⟨u, hu, hc⟩ := codes_split h.symm
  cases u with
  | nil => exact absurd hc.symm hr
  | cons c u =>
    refine ⟨c, codes u, ?_, by rw [← hc, codes_cons]⟩
    rw [List.all_eq_true] at ht
    exact ht c (by rw [hu]; simp)

end Go.Proofs.YtgeglhgkibcpfaaDoor
