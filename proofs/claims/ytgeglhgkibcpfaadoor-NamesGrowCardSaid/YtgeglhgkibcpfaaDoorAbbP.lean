/- Abbreviations of texts: what is counted, chosen, cut; what choosing comes to; counting as a census does it: plain functions on lists of bytes. No function of the program is named here. -/
import Derived.Test.YtgeglhgkibcpfaaDoorAlpP
namespace Go.Proofs.YtgeglhgkibcpfaaDoor
open Go.RowKit
set_option linter.unusedVariables false

/-- a place begins with a row -/
def isPre (a s : List UInt8) : Bool := decide (s.take a.length = a)

theorem isPre_iff {a s : List UInt8} : isPre a s = true ↔ s.take a.length = a := by unfold isPre; rw [decide_eq_true_eq]
theorem isPre_len {a s : List UInt8} (h : isPre a s = true) : a.length ≤ s.length := by
  have := congrArg List.length (isPre_iff.1 h)
  rw [List.length_take] at this
  omega
theorem isPre_split {a s : List UInt8} (h : isPre a s = true) : s = a ++ s.drop a.length := by
  have e := List.take_append_drop a.length s
  rw [isPre_iff.1 h] at e
  exact e.symm
theorem isPre_mk (a r : List UInt8) : isPre a (a ++ r) = true := by rw [isPre_iff, List.take_left]
theorem isPre_app {a s : List UInt8} (h : isPre a s = true) (r : List UInt8) : isPre a (s ++ r) = true := by
  rw [isPre_split h, List.append_assoc]
  exact isPre_mk _ _

/-- a text without the occurrences of a row, from the left: what was read before is 'acc' -/
def splF (row : List UInt8) : Nat → List UInt8 → List UInt8 → List (List UInt8)
  | 0, acc, s => [acc ++ s]
  | f + 1, acc, s => if row.length ≤ s.length then if isPre row s then acc :: splF row f [] (s.drop row.length) else splF row f (acc ++ s.take 1) (s.drop 1) else [acc ++ s]

def spl (row s : List UInt8) : List (List UInt8) := splF row (s.length + 1) [] s

/-- more fuel than bytes does nothing -/
theorem splF_fuel (row : List UInt8) (hr : row ≠ []) : ∀ (f g : Nat) (acc s : List UInt8), s.length < f → s.length < g → splF row f acc s = splF row g acc s := by
  have hp : 1 ≤ row.length := by
    cases row with
    | nil => exact absurd rfl hr
    | cons c r => simp
  intro f
  induction f with
  | zero => intro g acc s h _; omega
  | succ f ih =>
    intro g acc s h h2
    cases g with
    | zero => omega
    | succ g =>
      unfold splF
      by_cases hl : row.length ≤ s.length
      · rw [if_pos hl, if_pos hl]
        by_cases hb : isPre row s = true
        · rw [if_pos hb, if_pos hb, ih g [] (s.drop row.length) (by rw [List.length_drop]; omega) (by rw [List.length_drop]; omega)]
        · rw [if_neg hb, if_neg hb, ih g _ (s.drop 1) (by rw [List.length_drop]; omega) (by rw [List.length_drop]; omega)]
      · rw [if_neg hl, if_neg hl]

/-- the parts of a text, from a place on; what was read since the last occurrence is 'acc' -/
def splA (row acc s : List UInt8) : List (List UInt8) := splF row (s.length + 1) acc s

theorem spl_eq (row s : List UInt8) : spl row s = splA row [] s := rfl
theorem splA_short {row acc s : List UInt8} (h : s.length < row.length) : splA row acc s = [acc ++ s] := by
  unfold splA splF
  rw [if_neg (by omega)]
theorem splA_hit {row acc s : List UInt8} (hr : row ≠ []) (h : isPre row s = true) : splA row acc s = acc :: splA row [] (s.drop row.length) := by
  have hl := isPre_len h
  have hp : 1 ≤ row.length := by
    cases row with
    | nil => exact absurd rfl hr
    | cons c r => simp
  unfold splA
  conv => lhs; unfold splF
  rw [if_pos hl, if_pos h, splF_fuel row hr s.length ((s.drop row.length).length + 1) [] _ (by rw [List.length_drop]; omega) (by omega)]
theorem splA_miss {row acc s : List UInt8} (hr : row ≠ []) (hl : row.length ≤ s.length) (h : isPre row s = false) : splA row acc s = splA row (acc ++ s.take 1) (s.drop 1) := by
  have hp : 1 ≤ row.length := by
    cases row with
    | nil => exact absurd rfl hr
    | cons c r => simp
  unfold splA
  conv => lhs; unfold splF
  rw [if_pos hl, if_neg (by rw [h]; decide), splF_fuel row hr s.length ((s.drop 1).length + 1) _ _ (by rw [List.length_drop]; omega) (by omega)]

/-- how often a row stands in a text, in texts -/
def cnt1 (row s : List UInt8) : Nat := (spl row s).length - 1
def cntA (row s : List UInt8) : Nat := (splA row [] s).length - 1
def cnt (row : List UInt8) (parts : List (List UInt8)) : Nat := (parts.map (cnt1 row)).sum

theorem splF_len_acc (row : List UInt8) : ∀ (f : Nat) (acc acc' s : List UInt8), (splF row f acc s).length = (splF row f acc' s).length := by
  intro f
  induction f with
  | zero => intro acc acc' s; rfl
  | succ f ih =>
    intro acc acc' s
    unfold splF
    by_cases hl : row.length ≤ s.length
    · rw [if_pos hl, if_pos hl]
      by_cases hb : isPre row s = true
      · rw [if_pos hb, if_pos hb]; rfl
      · rw [if_neg hb, if_neg hb]; exact ih _ _ _
    · rw [if_neg hl, if_neg hl]; rfl

theorem splF_pos (row : List UInt8) : ∀ (f : Nat) (acc s : List UInt8), 1 ≤ (splF row f acc s).length := by
  intro f
  induction f with
  | zero => intro acc s; simp [splF]
  | succ f ih =>
    intro acc s
    unfold splF
    split
    · split
      · simp
      · exact ih _ _
    · simp

theorem cntA_short {row s : List UInt8} (h : s.length < row.length) : cntA row s = 0 := by unfold cntA; rw [splA_short h]; rfl
theorem cntA_hit {row s : List UInt8} (hr : row ≠ []) (h : isPre row s = true) : cntA row s = cntA row (s.drop row.length) + 1 := by
  have := splF_pos row ((s.drop row.length).length + 1) [] (s.drop row.length)
  unfold cntA
  rw [splA_hit hr h, List.length_cons]
  change _ = _ - 1 + 1
  unfold splA
  omega
theorem cntA_miss {row s : List UInt8} (hr : row ≠ []) (hl : row.length ≤ s.length) (h : isPre row s = false) : cntA row s = cntA row (s.drop 1) := by
  unfold cntA
  rw [splA_miss hr hl h]
  unfold splA
  rw [splF_len_acc row _ ([] ++ s.take 1) [] _]

theorem cntA_le (row : List UInt8) (hr : row ≠ []) : ∀ (n : Nat) (s : List UInt8), s.length ≤ n → cntA row s ≤ s.length := by
  intro n
  induction n with
  | zero =>
    intro s h
    rw [cntA_short (by cases row with | nil => exact absurd rfl hr | cons c r => simp; omega)]
    omega
  | succ n ih =>
    intro s h
    have hp : 1 ≤ row.length := by
      cases row with
      | nil => exact absurd rfl hr
      | cons c r => simp
    by_cases hl : row.length ≤ s.length
    · by_cases hb : isPre row s = true
      · rw [cntA_hit hr hb]
        have := ih (s.drop row.length) (by rw [List.length_drop]; omega)
        rw [List.length_drop] at this
        omega
      · rw [Bool.not_eq_true] at hb
        rw [cntA_miss hr hl hb]
        have := ih (s.drop 1) (by rw [List.length_drop]; omega)
        rw [List.length_drop] at this
        omega
    · rw [cntA_short (by omega)]; omega

/-- what a row saves -/
def savesI (parts : List (List UInt8)) (row : List UInt8) : Int := ((costL row : Int) - 2) * (cnt row parts : Int) - (costL row : Int)

/-- the smaller text by its bytes -/
def ltB (a b : List UInt8) : Bool := Op.bytesLess a b

/-- a row is better than the best so far, which saves 'm' -/
def better (parts : List (List UInt8)) (row b : List UInt8) (m : Int) : Bool :=
  decide (m < savesI parts row) || (decide (savesI parts row = m) && decide (0 < savesI parts row) && (decide (b.length < row.length) || (decide (row.length = b.length) && ltB row b)))

def stepB (parts : List (List UInt8)) (b : List UInt8 × Int) (row : List UInt8) : List UInt8 × Int := if better parts row b.1 b.2 then (row, savesI parts row) else b

/-- the rows of 2 to 8 bytes at a place; in a text; in texts -/
def rowsAt (p : List UInt8) (i : Nat) : List (List UInt8) := (List.range' 2 (min 7 (p.length - i - 1))).map fun n => (p.drop i).take n
def rowsOf (p : List UInt8) : List (List UInt8) := (List.range p.length).flatMap (rowsAt p)
def bestP (parts : List (List UInt8)) (todo : List (List UInt8)) (b : List UInt8 × Int) : List UInt8 × Int := (todo.flatMap rowsOf).foldl (stepB parts) b
def bestL (parts : List (List UInt8)) : List UInt8 := (bestP parts parts ([], 0)).1

/-- what is chosen in so many rounds -/
def chooseF : Nat → List (List UInt8) → List (List UInt8)
  | 0, _ => []
  | k + 1, parts => if bestL parts = [] then [] else bestL parts :: chooseF k (parts.flatMap (spl (bestL parts)))

def chooseL (texts : List (List UInt8)) (most : Int) : List (List UInt8) := chooseF (min most 32).toNat texts

/-- the least of m and of what each row costs that the place begins with; t: the least costs from the next place on -/
def pickB (ab : List (List UInt8)) (s : List UInt8) (t : List Nat) (m : Nat) : Nat :=
  ab.foldl (fun m a => if (a ≠ [] ∧ isPre a s = true) ∧ 2 + t.getD (a.length - 1) 0 < m then 2 + t.getD (a.length - 1) 0 else m) m

/-- the least cost from each place on -/
def tab (ab : List (List UInt8)) : List UInt8 → List Nat
  | [] => [0]
  | c :: r => pickB (ab.take 32) (c :: r) (tab ab r) (costL [c] + (tab ab r).headD 0) :: tab ab r

def least (ab : List (List UInt8)) (s : List UInt8) : Nat := (tab ab s).headD 0

theorem least_nil (ab : List (List UInt8)) : least ab [] = 0 := rfl

theorem tab_len (ab : List (List UInt8)) : ∀ s, (tab ab s).length = s.length + 1 := by
  intro s
  induction s with
  | nil => rfl
  | cons c r ih => show (tab ab r).length + 1 = _; rw [ih, List.length_cons]

theorem tab_get (ab : List (List UInt8)) : ∀ (s : List UInt8) (i : Nat), i ≤ s.length → (tab ab s).getD i 0 = least ab (s.drop i) := by
  intro s
  induction s with
  | nil =>
    intro i h
    have : i = 0 := by simpa using h
    subst this
    rfl
  | cons c r ih =>
    intro i h
    cases i with
    | zero => rfl
    | succ i =>
      rw [List.drop_succ_cons, ← ih i (by rw [List.length_cons] at h; omega)]
      rfl

theorem pickB_cons (a : List UInt8) (ab : List (List UInt8)) (s : List UInt8) (t : List Nat) (m : Nat) :
    pickB (a :: ab) s t m = pickB ab s t (if (a ≠ [] ∧ isPre a s = true) ∧ 2 + t.getD (a.length - 1) 0 < m then 2 + t.getD (a.length - 1) 0 else m) := rfl

theorem pickB_le (s : List UInt8) (t : List Nat) : ∀ (ab : List (List UInt8)) (m : Nat), pickB ab s t m ≤ m := by
  intro ab
  induction ab with
  | nil => intro m; exact Nat.le_refl _
  | cons a ab ih =>
    intro m
    rw [pickB_cons]
    refine Nat.le_trans (ih _) ?_
    split <;> omega

theorem pickB_mem (s : List UInt8) (t : List Nat) {a : List UInt8} (ha : a ≠ []) (hp : isPre a s = true) : ∀ (ab : List (List UInt8)) (m : Nat), a ∈ ab → pickB ab s t m ≤ 2 + t.getD (a.length - 1) 0 := by
  intro ab
  induction ab with
  | nil => intro m h; simp at h
  | cons b ab ih =>
    intro m h
    rw [pickB_cons]
    rcases List.mem_cons.1 h with rfl | h
    · refine Nat.le_trans (pickB_le s t ab _) ?_
      split
      · omega
      · rename_i hn
        by_cases hlt : 2 + t.getD (a.length - 1) 0 < m
        · exact absurd ⟨⟨ha, hp⟩, hlt⟩ hn
        · omega
    · exact ih _ h

theorem pickB_cases (s : List UInt8) (t : List Nat) : ∀ (ab : List (List UInt8)) (m : Nat), pickB ab s t m = m ∨ ∃ a ∈ ab, a ≠ [] ∧ isPre a s = true ∧ pickB ab s t m = 2 + t.getD (a.length - 1) 0 := by
  intro ab
  induction ab with
  | nil => intro m; exact .inl rfl
  | cons a ab ih =>
    intro m
    rw [pickB_cons]
    split
    · rename_i h
      rcases ih (2 + t.getD (a.length - 1) 0) with e | ⟨b, hb, h1, h2, e⟩
      · exact .inr ⟨a, by simp, h.1.1, h.1.2, e⟩
      · exact .inr ⟨b, by simp [hb], h1, h2, e⟩
    · rcases ih m with e | ⟨b, hb, h1, h2, e⟩
      · exact .inl e
      · exact .inr ⟨b, by simp [hb], h1, h2, e⟩

theorem least_cons (ab : List (List UInt8)) (c : UInt8) (r : List UInt8) : least ab (c :: r) = pickB (ab.take 32) (c :: r) (tab ab r) (costL [c] + least ab r) := rfl

theorem pos_of_ne {a : List UInt8} (h : a ≠ []) : 1 ≤ a.length := by
  cases a with
  | nil => exact absurd rfl h
  | cons c r => simp

/-- what stands behind a row, out of the table -/
theorem tab_behind (ab : List (List UInt8)) {a r : List UInt8} {c : UInt8} (ha : a ≠ []) (hp : isPre a (c :: r) = true) : (tab ab r).getD (a.length - 1) 0 = least ab ((c :: r).drop a.length) := by
  have h1 := pos_of_ne ha
  have h2 := isPre_len hp
  rw [List.length_cons] at h2
  rw [tab_get ab r _ (by omega)]
  congr 1
  obtain ⟨k, hk⟩ : ∃ k, a.length = k + 1 := ⟨a.length - 1, by omega⟩
  rw [hk, List.drop_succ_cons]
  rfl

theorem least_lit (ab : List (List UInt8)) (c : UInt8) (r : List UInt8) : least ab (c :: r) ≤ costL [c] + least ab r := by rw [least_cons]; exact pickB_le _ _ _ _

theorem least_abb (ab : List (List UInt8)) {a s : List UInt8} (h : a ∈ ab.take 32) (ha : a ≠ []) (hp : isPre a s = true) : least ab s ≤ 2 + least ab (s.drop a.length) := by
  cases s with
  | nil =>
    have := isPre_len hp
    have := pos_of_ne ha
    rw [List.length_nil] at *
    omega
  | cons c r =>
    rw [← tab_behind ab ha hp, least_cons]
    exact pickB_mem _ _ ha hp _ _ h

theorem least_cases (ab : List (List UInt8)) (c : UInt8) (r : List UInt8) : least ab (c :: r) = costL [c] + least ab r ∨ ∃ a ∈ ab.take 32, a ≠ [] ∧ isPre a (c :: r) = true ∧ least ab (c :: r) = 2 + least ab ((c :: r).drop a.length) := by
  rw [least_cons]
  rcases pickB_cases (c :: r) (tab ab r) (ab.take 32) (costL [c] + least ab r) with e | ⟨a, h1, h2, h3, e⟩
  · exact .inl e
  · exact .inr ⟨a, h1, h2, h3, by rw [e, tab_behind ab h2 h3]⟩

theorem costL_cons (c : UInt8) (r : List UInt8) : costL (c :: r) = costL [c] + costL r := costL_append [c] r

theorem least_le_cost (ab : List (List UInt8)) : ∀ s, least ab s ≤ costL s := by
  intro s
  induction s with
  | nil => exact Nat.le_refl _
  | cons c r ih =>
    have := least_lit ab c r
    rw [costL_cons]
    omega

theorem least_none : ∀ s, least [] s = costL s := by
  intro s
  induction s with
  | nil => rfl
  | cons c r ih =>
    rcases least_cases [] c r with e | ⟨a, h, _⟩
    · rw [e, ih]
      exact (costL_cons c r).symm
    · simp at h

theorem least_mono (ab : List (List UInt8)) (k : Nat) : ∀ (n : Nat) (s : List UInt8), s.length ≤ n → least ab s ≤ least (ab.take k) s := by
  intro n
  induction n with
  | zero => intro s h; rw [List.eq_nil_of_length_eq_zero (by omega : s.length = 0)]; exact Nat.le_refl _
  | succ n ih =>
    intro s h
    cases s with
    | nil => exact Nat.le_refl _
    | cons c r =>
      rw [List.length_cons] at h
      rcases least_cases (ab.take k) c r with e | ⟨a, h1, h2, h3, e⟩
      · have h4 := ih r (by omega)
        have h5 := least_lit ab c r
        omega
      · have hm : a ∈ ab.take 32 := by
          rw [List.take_take] at h1
          exact (List.take_sublist_take_left (Nat.min_le_left 32 k)).subset h1
        have h4 := ih ((c :: r).drop a.length) (by have := pos_of_ne h2; rw [List.length_drop, List.length_cons]; omega)
        have h5 := least_abb ab hm h2 h3
        omega

/-- a text's two parts cost no less than the whole -/
theorem least_add (ab : List (List UInt8)) (y : List UInt8) : ∀ (n : Nat) (x : List UInt8), x.length ≤ n → least ab (x ++ y) ≤ least ab x + least ab y := by
  intro n
  induction n with
  | zero => intro x h; rw [List.eq_nil_of_length_eq_zero (by omega : x.length = 0), List.nil_append]; exact Nat.le_add_left _ _
  | succ n ih =>
    intro x h
    cases x with
    | nil => rw [List.nil_append]; exact Nat.le_add_left _ _
    | cons c r =>
      rw [List.length_cons] at h
      rcases least_cases ab c r with e | ⟨a, h1, h2, h3, e⟩
      · have h4 := ih r (by omega)
        have h5 := least_lit ab c (r ++ y)
        rw [List.cons_append]
        omega
      · have h4 := ih ((c :: r).drop a.length) (by have := pos_of_ne h2; rw [List.length_drop, List.length_cons]; omega)
        have h5 := least_abb ab h1 h2 (isPre_app h3 y)
        rw [List.drop_append_of_le_length (isPre_len h3)] at h5
        omega

theorem least_self (ab : List (List UInt8)) {a : List UInt8} (h : a ∈ ab.take 32) (ha : a ≠ []) : least ab a ≤ 2 := by
  have h1 := least_abb ab h ha (s := a) (by rw [isPre_iff, List.take_length])
  rw [List.drop_length, least_nil] at h1
  omega

/-- a step of a cut: a byte, or an abbreviation, from 1 on -/
inductive Step where
  | lit (c : UInt8)
  | abb (k : Nat)

/-- the first abbreviation of the least cost -/
def firstA (ab : List (List UInt8)) (s : List UInt8) : Nat := (ab.take 32).findIdx fun a => decide (a ≠ []) && isPre a s && decide (2 + least ab (s.drop a.length) = least ab s)

def stepsF (ab : List (List UInt8)) : Nat → List UInt8 → List Step
  | 0, _ => []
  | _ + 1, [] => []
  | f + 1, c :: r => if costL [c] + least ab r = least ab (c :: r) then .lit c :: stepsF ab f r else .abb (firstA ab (c :: r) + 1) :: stepsF ab f ((c :: r).drop (ab.getD (firstA ab (c :: r)) []).length)

/-- pieces, and one step more -/
def putS (out : List (List UInt8 × Int)) : Step → List (List UInt8 × Int)
  | .lit c => match out.getLast? with
    | none => [([c], 0)]
    | some p => if 0 < p.2 then out ++ [([c], 0)] else out.dropLast ++ [(p.1 ++ [c], p.2)]
  | .abb k => out ++ [([], (k : Int))]

def cutL (ab : List (List UInt8)) (s : List UInt8) : List (List UInt8 × Int) := (stepsF ab s.length s).foldl putS []

/-- the cost of pieces -/
def pcost (l : List (List UInt8 × Int)) : Nat := (l.map fun p => if 0 < p.2 then 2 else costL p.1).sum

/-- the text of pieces; none: a piece's abbreviation is none -/
def joinF (ab : List (List UInt8)) : List UInt8 → List (List UInt8 × Int) → Option (List UInt8)
  | acc, [] => some acc
  | acc, p :: r => if p.2 < 0 ∨ (ab.length : Int) < p.2 ∨ 32 < p.2 then none else joinF ab (acc ++ if 0 < p.2 then ab.getD (p.2 - 1).toNat [] else p.1) r
def joinL (ab : List (List UInt8)) (l : List (List UInt8 × Int)) : Option (List UInt8) := joinF ab [] l

/-- what a step stands for, and costs -/
def stepT (ab : List (List UInt8)) : Step → List UInt8
  | .lit c => [c]
  | .abb k => ab.getD (k - 1) []
def stepC : Step → Nat
  | .lit c => costL [c]
  | .abb _ => 2
def stepOk (ab : List (List UInt8)) : Step → Prop
  | .lit _ => True
  | .abb k => 1 ≤ k ∧ k ≤ ab.length ∧ k ≤ 32

theorem firstA_spec {ab : List (List UInt8)} {c : UInt8} {r : List UInt8} (h : costL [c] + least ab r ≠ least ab (c :: r)) :
    firstA ab (c :: r) < ab.length ∧ firstA ab (c :: r) < 32 ∧ ab.getD (firstA ab (c :: r)) [] ≠ [] ∧ isPre (ab.getD (firstA ab (c :: r)) []) (c :: r) = true ∧ 2 + least ab ((c :: r).drop (ab.getD (firstA ab (c :: r)) []).length) = least ab (c :: r) := by
  rcases least_cases ab c r with e | ⟨a, h1, h2, h3, e⟩
  · exact absurd e.symm h
  · have hl : firstA ab (c :: r) < (ab.take 32).length := List.findIdx_lt_length_of_exists ⟨a, h1, by simp [h2, h3, e]⟩
    have hp := List.findIdx_getElem (w := hl)
    have hl2 := hl
    rw [List.length_take] at hl2
    have hg : ab.getD (firstA ab (c :: r)) [] = (ab.take 32)[firstA ab (c :: r)] := by
      rw [List.getElem_take]
      simp [List.getD, show firstA ab (c :: r) < ab.length from by omega]
    rw [hg]
    simp only [Bool.and_eq_true, decide_eq_true_eq] at hp
    exact ⟨by omega, by omega, hp.1.1, hp.1.2, hp.2⟩

theorem steps_spec (ab : List (List UInt8)) : ∀ (f : Nat) (s : List UInt8), s.length ≤ f → (stepsF ab f s).flatMap (stepT ab) = s ∧ ((stepsF ab f s).map stepC).sum = least ab s ∧ ∀ x ∈ stepsF ab f s, stepOk ab x := by
  intro f
  induction f with
  | zero =>
    intro s h
    rw [List.eq_nil_of_length_eq_zero (by omega : s.length = 0)]
    exact ⟨rfl, rfl, fun x hx => by simp [stepsF] at hx⟩
  | succ f ih =>
    intro s h
    cases s with
    | nil => exact ⟨rfl, rfl, fun x hx => by simp [stepsF] at hx⟩
    | cons c r =>
      rw [List.length_cons] at h
      unfold stepsF
      by_cases hc : costL [c] + least ab r = least ab (c :: r)
      · rw [if_pos hc]
        obtain ⟨h1, h2, h3⟩ := ih r (by omega)
        refine ⟨by rw [List.flatMap_cons, h1]; rfl, by rw [List.map_cons, List.sum_cons, h2]; exact hc, fun x hx => ?_⟩
        rcases List.mem_cons.1 hx with rfl | hx
        · trivial
        · exact h3 x hx
      · rw [if_neg hc]
        obtain ⟨k1, k2, k3, k4, k5⟩ := firstA_spec hc
        obtain ⟨h1, h2, h3⟩ := ih ((c :: r).drop (ab.getD (firstA ab (c :: r)) []).length) (by have := pos_of_ne k3; rw [List.length_drop, List.length_cons]; omega)
        refine ⟨?_, by rw [List.map_cons, List.sum_cons, h2]; exact k5, fun x hx => ?_⟩
        · rw [List.flatMap_cons, h1]
          show ab.getD (firstA ab (c :: r) + 1 - 1) [] ++ _ = _
          rw [Nat.add_sub_cancel]
          exact (isPre_split k4).symm
        · rcases List.mem_cons.1 hx with rfl | hx
          · exact ⟨by omega, by omega, by omega⟩
          · exact h3 x hx

theorem pcost_append (l m : List (List UInt8 × Int)) : pcost (l ++ m) = pcost l + pcost m := by unfold pcost; rw [List.map_append, List.sum_append]

/-- pieces that a cut may have -/
def pOk (ab : List (List UInt8)) (p : List UInt8 × Int) : Prop := 0 ≤ p.2 ∧ p.2 ≤ ab.length ∧ p.2 ≤ 32
/-- the text that pieces stand for -/
def ptext (ab : List (List UInt8)) (p : List UInt8 × Int) : List UInt8 := if 0 < p.2 then ab.getD (p.2 - 1).toNat [] else p.1

theorem putS_spec (ab : List (List UInt8)) (out : List (List UInt8 × Int)) (x : Step) (ho : ∀ p ∈ out, pOk ab p) (hx : stepOk ab x) :
    (putS out x).flatMap (ptext ab) = out.flatMap (ptext ab) ++ stepT ab x ∧ pcost (putS out x) = pcost out + stepC x ∧ ∀ p ∈ putS out x, pOk ab p := by
  cases x with
  | abb k =>
    obtain ⟨h1, h2, h3⟩ := hx
    have e : ptext ab ([], (k : Int)) = ab.getD (k - 1) [] := by
      unfold ptext
      rw [if_pos (by show (0 : Int) < (k : Int); omega)]
      congr 1
      show ((k : Int) - 1).toNat = k - 1
      omega
    refine ⟨by simp [putS, stepT, e], ?_, fun p hp => ?_⟩
    · show pcost (out ++ [([], (k : Int))]) = _
      rw [pcost_append]
      unfold pcost
      simp [stepC, show 0 < k from by omega]
    · rcases List.mem_append.1 hp with hp | hp
      · exact ho p hp
      · rw [List.mem_singleton] at hp
        subst hp
        refine ⟨?_, ?_, ?_⟩ <;> show _ ≤ _ <;> simp <;> omega
  | lit c =>
    have new : ∀ o : List (List UInt8 × Int), (∀ p ∈ o, pOk ab p) → (o ++ [([c], (0 : Int))]).flatMap (ptext ab) = o.flatMap (ptext ab) ++ [c] ∧ pcost (o ++ [([c], (0 : Int))]) = pcost o + costL [c] ∧ ∀ p ∈ o ++ [([c], (0 : Int))], pOk ab p := by
      intro o ho
      refine ⟨by simp [ptext], by rw [pcost_append]; simp [pcost], fun p hp => ?_⟩
      rcases List.mem_append.1 hp with hp | hp
      · exact ho p hp
      · rw [List.mem_singleton] at hp
        subst hp
        exact ⟨Int.le_refl _, Int.natCast_nonneg _, show (0 : Int) ≤ 32 by decide⟩
    unfold putS
    cases hl : out.getLast? with
    | none =>
      have : out = [] := by simpa using hl
      subst this
      exact new [] (fun p hp => by simp at hp)
    | some p =>
      obtain ⟨o, rfl⟩ : ∃ o, out = o ++ [p] := by
        rw [List.getLast?_eq_some_iff] at hl
        exact hl
      by_cases hp : 0 < p.2
      · simp only [if_pos hp]
        exact new _ ho
      · simp only [if_neg hp, List.dropLast_concat]
        have h1 : ptext ab (p.1 ++ [c], p.2) = ptext ab p ++ [c] := by unfold ptext; simp only [if_neg hp]
        refine ⟨by simp [h1, stepT], ?_, fun q hq => ?_⟩
        · rw [pcost_append, pcost_append]
          have h2 := costL_append p.1 [c]
          unfold pcost
          simp only [List.map_cons, List.map_nil, List.sum_cons, List.sum_nil, if_neg hp, stepC]
          omega
        · rcases List.mem_append.1 hq with hq | hq
          · exact ho q (by simp [hq])
          · rw [List.mem_singleton] at hq
            subst hq
            exact ho p (by simp)

theorem fold_spec (ab : List (List UInt8)) : ∀ (xs : List Step) (out : List (List UInt8 × Int)), (∀ p ∈ out, pOk ab p) → (∀ x ∈ xs, stepOk ab x) →
    (xs.foldl putS out).flatMap (ptext ab) = out.flatMap (ptext ab) ++ xs.flatMap (stepT ab) ∧ pcost (xs.foldl putS out) = pcost out + (xs.map stepC).sum ∧ ∀ p ∈ xs.foldl putS out, pOk ab p := by
  intro xs
  induction xs with
  | nil => intro out ho _; exact ⟨by simp, by simp, ho⟩
  | cons x xs ih =>
    intro out ho hx
    obtain ⟨h1, h2, h3⟩ := putS_spec ab out x ho (hx x (by simp))
    obtain ⟨k1, k2, k3⟩ := ih (putS out x) h3 (fun y hy => hx y (by simp [hy]))
    rw [List.foldl_cons]
    exact ⟨by rw [k1, h1, List.append_assoc, List.flatMap_cons], by rw [k2, h2, List.map_cons, List.sum_cons, Nat.add_assoc], k3⟩

theorem joinF_ok (ab : List (List UInt8)) : ∀ (l : List (List UInt8 × Int)) (acc : List UInt8), (∀ p ∈ l, pOk ab p) → joinF ab acc l = some (acc ++ l.flatMap (ptext ab)) := by
  intro l
  induction l with
  | nil => intro acc _; simp [joinF]
  | cons p l ih =>
    intro acc h
    obtain ⟨h1, h2, h3⟩ := h p (by simp)
    unfold joinF
    rw [if_neg (by omega), ih _ (fun q hq => h q (by simp [hq])), List.flatMap_cons, List.append_assoc]
    rfl

/-- a cut costs the least, and is joined to its text -/
theorem cut_cost (ab : List (List UInt8)) (s : List UInt8) : pcost (cutL ab s) = least ab s := by
  obtain ⟨_, h2, h3⟩ := steps_spec ab s.length s (Nat.le_refl _)
  obtain ⟨_, k2, _⟩ := fold_spec ab (stepsF ab s.length s) [] (fun p hp => by simp at hp) h3
  unfold cutL
  rw [k2, h2]
  simp [pcost]

theorem cut_join (ab : List (List UInt8)) (s : List UInt8) : joinL ab (cutL ab s) = some s := by
  obtain ⟨h1, _, h3⟩ := steps_spec ab s.length s (Nat.le_refl _)
  obtain ⟨k1, _, k3⟩ := fold_spec ab (stepsF ab s.length s) [] (fun p hp => by simp at hp) h3
  unfold joinL cutL
  rw [joinF_ok ab _ _ k3, k1, h1]
  rfl

/-- all the bytes of texts -/
def tot (ls : List (List UInt8)) : Nat := (ls.map List.length).sum

theorem tot_append (a b : List (List UInt8)) : tot (a ++ b) = tot a + tot b := by unfold tot; rw [List.map_append, List.sum_append]
theorem tot_cons (a : List UInt8) (b : List (List UInt8)) : tot (a :: b) = a.length + tot b := rfl

theorem tot_mem {ls : List (List UInt8)} {p : List UInt8} (h : p ∈ ls) : p.length ≤ tot ls := by
  induction ls with
  | nil => simp at h
  | cons a ls ih =>
    rw [tot_cons]
    rcases List.mem_cons.1 h with rfl | h
    · omega
    · have := ih h; omega

/-- induction over the occurrences of a row -/
theorem splA_ind {row : List UInt8} (hr : row ≠ []) {Q : List UInt8 → List UInt8 → List (List UInt8) → Prop}
    (short : ∀ acc s, s.length < row.length → Q acc s [acc ++ s])
    (hit : ∀ acc s, isPre row s = true → Q [] (s.drop row.length) (splA row [] (s.drop row.length)) → Q acc s (acc :: splA row [] (s.drop row.length)))
    (miss : ∀ acc s, row.length ≤ s.length → Q (acc ++ s.take 1) (s.drop 1) (splA row (acc ++ s.take 1) (s.drop 1)) → Q acc s (splA row (acc ++ s.take 1) (s.drop 1))) :
    ∀ (n : Nat) (acc s : List UInt8), s.length ≤ n → Q acc s (splA row acc s) := by
  have hp := pos_of_ne hr
  intro n
  induction n with
  | zero => intro acc s h; rw [splA_short (by omega)]; exact short acc s (by omega)
  | succ n ih =>
    intro acc s h
    by_cases hl : row.length ≤ s.length
    · by_cases hb : isPre row s = true
      · rw [splA_hit hr hb]
        exact hit acc s hb (ih [] _ (by rw [List.length_drop]; omega))
      · rw [Bool.not_eq_true] at hb
        rw [splA_miss hr hl hb]
        exact miss acc s hl (ih _ _ (by rw [List.length_drop]; omega))
    · rw [splA_short (by omega)]; exact short acc s (by omega)

theorem take_drop_one (acc s : List UInt8) : (acc ++ s.take 1) ++ s.drop 1 = acc ++ s := by rw [List.append_assoc, List.take_append_drop]

theorem splA_tot {row : List UInt8} (hr : row ≠ []) (acc s : List UInt8) : 1 ≤ (splA row acc s).length ∧ tot (splA row acc s) + ((splA row acc s).length - 1) * row.length = (acc ++ s).length := by
  refine splA_ind hr (Q := fun acc s l => 1 ≤ l.length ∧ tot l + (l.length - 1) * row.length = (acc ++ s).length) ?_ ?_ ?_ s.length acc s (Nat.le_refl _)
  · intro acc s _; exact ⟨by simp, by simp [tot]⟩
  · intro acc s hb ⟨h1, h2⟩
    refine ⟨by simp, ?_⟩
    obtain ⟨k, hk⟩ : ∃ k, (splA row [] (s.drop row.length)).length = k + 1 := ⟨_, (Nat.sub_add_cancel h1).symm⟩
    have hl := isPre_len hb
    rw [tot_cons, List.length_cons]
    rw [hk] at h2 ⊢
    simp only [Nat.add_sub_cancel, List.nil_append, List.length_drop, List.length_append] at h2 ⊢
    rw [Nat.add_mul, Nat.one_mul]
    omega
  · intro acc s _ h
    rw [take_drop_one] at h
    exact h

theorem splA_cost {row : List UInt8} (hr : row ≠ []) (acc s : List UInt8) : ((splA row acc s).map costL).sum + ((splA row acc s).length - 1) * costL row = costL (acc ++ s) := by
  refine (splA_ind hr (Q := fun acc s l => 1 ≤ l.length ∧ (l.map costL).sum + (l.length - 1) * costL row = costL (acc ++ s)) ?_ ?_ ?_ s.length acc s (Nat.le_refl _)).2
  · intro acc s _; exact ⟨by simp, by simp⟩
  · intro acc s hb ⟨h1, h2⟩
    refine ⟨by simp, ?_⟩
    obtain ⟨k, hk⟩ : ∃ k, (splA row [] (s.drop row.length)).length = k + 1 := ⟨_, (Nat.sub_add_cancel h1).symm⟩
    rw [List.map_cons, List.sum_cons, List.length_cons]
    rw [hk] at h2 ⊢
    simp only [Nat.add_sub_cancel, List.nil_append] at h2 ⊢
    conv => rhs; rw [isPre_split hb]
    rw [costL_append, costL_append, ← h2, Nat.add_mul, Nat.one_mul]
    omega
  · intro acc s _ h
    rw [take_drop_one] at h
    exact h

theorem splA_least {ab : List (List UInt8)} {row : List UInt8} (hr : row ≠ []) (hm : row ∈ ab.take 32) (acc s : List UInt8) : least ab (acc ++ s) ≤ ((splA row acc s).map (least ab)).sum + ((splA row acc s).length - 1) * 2 := by
  refine (splA_ind hr (Q := fun acc s l => 1 ≤ l.length ∧ least ab (acc ++ s) ≤ (l.map (least ab)).sum + (l.length - 1) * 2) ?_ ?_ ?_ s.length acc s (Nat.le_refl _)).2
  · intro acc s _; exact ⟨by simp, by simp⟩
  · intro acc s hb ⟨h1, h2⟩
    refine ⟨by simp, ?_⟩
    obtain ⟨k, hk⟩ : ∃ k, (splA row [] (s.drop row.length)).length = k + 1 := ⟨_, (Nat.sub_add_cancel h1).symm⟩
    rw [List.map_cons, List.sum_cons, List.length_cons]
    rw [hk] at h2 ⊢
    simp only [Nat.add_sub_cancel, List.nil_append] at h2 ⊢
    have h3 := least_add ab (row ++ s.drop row.length) _ acc (Nat.le_refl _)
    have h4 := least_add ab (s.drop row.length) _ row (Nat.le_refl _)
    have h5 := least_self ab hm hr
    rw [← isPre_split hb] at h3 h4
    omega
  · intro acc s _ h
    rw [take_drop_one] at h
    exact h

theorem cnt_cons (row p : List UInt8) (ls : List (List UInt8)) : cnt row (p :: ls) = cnt1 row p + cnt row ls := rfl
theorem cnt1_splA (row p : List UInt8) : cnt1 row p = (splA row [] p).length - 1 := rfl

theorem flat_tot {row : List UInt8} (hr : row ≠ []) (ls : List (List UInt8)) : (ls.flatMap (spl row)).length = ls.length + cnt row ls ∧ tot (ls.flatMap (spl row)) + cnt row ls * row.length = tot ls := by
  induction ls with
  | nil => exact ⟨rfl, by simp [tot, cnt]⟩
  | cons p ls ih =>
    obtain ⟨h1, h2⟩ := splA_tot hr [] p
    rw [List.flatMap_cons, List.length_append, tot_append, cnt_cons, tot_cons, cnt1_splA, spl_eq, Nat.add_mul, List.length_cons]
    rw [List.nil_append] at h2
    omega

theorem flat_cost {row : List UInt8} (hr : row ≠ []) (ls : List (List UInt8)) : ((ls.flatMap (spl row)).map costL).sum + cnt row ls * costL row = (ls.map costL).sum := by
  induction ls with
  | nil => simp [cnt]
  | cons p ls ih =>
    have h2 := splA_cost hr [] p
    rw [List.flatMap_cons, List.map_append, List.sum_append, cnt_cons, List.map_cons, List.sum_cons, cnt1_splA, spl_eq, Nat.add_mul]
    rw [List.nil_append] at h2
    omega

theorem flat_least {ab : List (List UInt8)} {row : List UInt8} (hr : row ≠ []) (hm : row ∈ ab.take 32) (ls : List (List UInt8)) : (ls.map (least ab)).sum ≤ ((ls.flatMap (spl row)).map (least ab)).sum + cnt row ls * 2 := by
  induction ls with
  | nil => simp [cnt]
  | cons p ls ih =>
    have h2 := splA_least hr hm [] p
    rw [List.flatMap_cons, List.map_append, List.sum_append, cnt_cons, List.map_cons, List.sum_cons, cnt1_splA, spl_eq, Nat.add_mul]
    rw [List.nil_append] at h2
    omega

/-- what the best so far may be -/
def GoodB (parts : List (List UInt8)) (b : List UInt8 × Int) : Prop := b = ([], 0) ∨ (2 ≤ b.1.length ∧ b.1.length ≤ 8 ∧ 0 < b.2 ∧ b.2 = savesI parts b.1)

theorem rowsAt_len {p : List UInt8} {i : Nat} (hi : i < p.length) : ∀ r ∈ rowsAt p i, 2 ≤ r.length ∧ r.length ≤ 8 := by
  intro r hr
  unfold rowsAt at hr
  obtain ⟨n, hn, rfl⟩ := List.mem_map.1 hr
  rw [List.mem_range'_1] at hn
  rw [List.length_take, List.length_drop]
  omega

theorem rowsOf_len {p : List UInt8} : ∀ r ∈ rowsOf p, 2 ≤ r.length ∧ r.length ≤ 8 := by
  intro r hr
  unfold rowsOf at hr
  obtain ⟨i, hi, h⟩ := List.mem_flatMap.1 hr
  exact rowsAt_len (List.mem_range.1 hi) r h

theorem stepB_good {parts : List (List UInt8)} {b : List UInt8 × Int} {row : List UInt8} (h : GoodB parts b) (hr : 2 ≤ row.length ∧ row.length ≤ 8) : GoodB parts (stepB parts b row) := by
  unfold stepB
  by_cases hb : better parts row b.1 b.2 = true
  · rw [if_pos hb]
    refine .inr ⟨hr.1, hr.2, ?_, rfl⟩
    have h0 : 0 ≤ b.2 := by
      rcases h with rfl | h
      · exact Int.le_refl _
      · omega
    unfold better at hb
    simp only [Bool.or_eq_true, Bool.and_eq_true, decide_eq_true_eq] at hb
    show 0 < savesI parts row
    rcases hb with hb | hb
    · omega
    · exact hb.1.2
  · rw [if_neg hb]; exact h

theorem fold_good {parts : List (List UInt8)} : ∀ (rows : List (List UInt8)) (b : List UInt8 × Int), (∀ r ∈ rows, 2 ≤ r.length ∧ r.length ≤ 8) → GoodB parts b → GoodB parts (rows.foldl (stepB parts) b) := by
  intro rows
  induction rows with
  | nil => intro b _ h; exact h
  | cons r rows ih => intro b hr h; exact ih _ (fun x hx => hr x (by simp [hx])) (stepB_good h (hr r (by simp)))

theorem bestL_good (parts : List (List UInt8)) : bestL parts = [] ∨ (2 ≤ (bestL parts).length ∧ (bestL parts).length ≤ 8 ∧ 0 < savesI parts (bestL parts)) := by
  have h : GoodB parts (bestP parts parts ([], 0)) := fold_good _ _ (fun r hr => by
    obtain ⟨p, _, h⟩ := List.mem_flatMap.1 hr
    exact rowsOf_len r h) (.inl rfl)
  rcases h with h | ⟨h1, h2, h3, h4⟩
  · left; unfold bestL; rw [h]
  · right; exact ⟨h1, h2, by rw [h4] at h3; exact h3⟩

theorem chooseF_mem : ∀ (k : Nat) (parts : List (List UInt8)), (chooseF k parts).length ≤ k ∧ ∀ a ∈ chooseF k parts, 2 ≤ a.length ∧ a.length ≤ 8 := by
  intro k
  induction k with
  | zero => intro parts; exact ⟨Nat.le_refl _, fun a h => by simp [chooseF] at h⟩
  | succ k ih =>
    intro parts
    unfold chooseF
    by_cases hb : bestL parts = []
    · rw [if_pos hb]; exact ⟨Nat.zero_le _, fun a h => by simp at h⟩
    · rw [if_neg hb]
      obtain ⟨h1, h2⟩ := ih (parts.flatMap (spl (bestL parts)))
      refine ⟨by rw [List.length_cons]; omega, fun a ha => ?_⟩
      rcases List.mem_cons.1 ha with rfl | ha
      · rcases bestL_good parts with h | h
        · exact absurd h hb
        · exact ⟨h.1, h.2.1⟩
      · exact h2 a ha

/-- choosing never costs more -/
theorem chooseF_pays (ab : List (List UInt8)) : ∀ (k : Nat) (parts : List (List UInt8)), (∀ a ∈ chooseF k parts, a ∈ ab.take 32) →
    (parts.map (least ab)).sum + ((chooseF k parts).map costL).sum ≤ (parts.map costL).sum := by
  have base : ∀ parts : List (List UInt8), (parts.map (least ab)).sum ≤ (parts.map costL).sum := by
    intro parts
    induction parts with
    | nil => simp
    | cons p ps ih => have := least_le_cost ab p; simp only [List.map_cons, List.sum_cons]; omega
  intro k
  induction k with
  | zero => intro parts _; exact base parts
  | succ k ih =>
    intro parts h
    unfold chooseF at h ⊢
    by_cases hb : bestL parts = []
    · rw [if_pos hb]; exact base parts
    · rw [if_neg hb] at h ⊢
      rcases bestL_good parts with hg | ⟨_, _, hg⟩
      · exact absurd hg hb
      · have h1 := ih (parts.flatMap (spl (bestL parts))) (fun a ha => h a (by simp [ha]))
        have h2 := flat_least hb (h (bestL parts) (by simp)) parts
        have h3 := flat_cost hb parts
        unfold savesI at hg
        rw [List.map_cons, List.sum_cons]
        have h4 : ((costL (bestL parts) : Int) - 2) * (cnt (bestL parts) parts : Int) = ((cnt (bestL parts) parts * costL (bestL parts) : Nat) : Int) - ((cnt (bestL parts) parts * 2 : Nat) : Int) := by
          rw [Int.sub_mul, Int.natCast_mul, Int.natCast_mul, Int.mul_comm (costL (bestL parts) : Int), Int.mul_comm 2]
          rfl
        rw [h4] at hg
        omega

theorem choose_pays (texts : List (List UInt8)) (most : Int) :
    (chooseL texts most).length ≤ 32 ∧ ((chooseL texts most).length : Int) ≤ max most 0 ∧ (∀ a ∈ chooseL texts most, 2 ≤ a.length ∧ a.length ≤ 8) ∧
      (texts.map (least (chooseL texts most))).sum + ((chooseL texts most).map costL).sum ≤ (texts.map costL).sum := by
  obtain ⟨h1, h2⟩ := chooseF_mem (min most 32).toNat texts
  unfold chooseL
  refine ⟨by omega, by omega, h2, chooseF_pays _ _ _ (fun a ha => ?_)⟩
  rw [List.take_of_length_le (by omega)]
  exact ha

theorem cntA_nil {row : List UInt8} (hr : row ≠ []) : cntA row [] = 0 := cntA_short (by have := pos_of_ne hr; rw [List.length_nil]; omega)

/-- fewer bytes, fewer occurrences; and at most one more -/
theorem cntA_two {row : List UInt8} (hr : row ≠ []) : ∀ (n : Nat) (s : List UInt8), s.length ≤ n → cntA row (s.drop 1) ≤ cntA row s ∧ (∀ m, m ≤ row.length → cntA row s ≤ 1 + cntA row (s.drop m)) ∧ ∀ i, cntA row (s.drop i) ≤ cntA row s := by
  have hp := pos_of_ne hr
  intro n
  induction n with
  | zero =>
    intro s h
    have : s = [] := List.eq_nil_of_length_eq_zero (by omega)
    subst this
    have h0 := cntA_nil hr
    exact ⟨by simp, fun m _ => by rw [h0]; omega, fun i => by simp⟩
  | succ n ih =>
    intro s h
    by_cases hs : s.length ≤ n
    · exact ih s hs
    · have hsl : s.length = n + 1 := by omega
      have hd : ∀ m, 1 ≤ m → s.drop m = (s.drop 1).drop (m - 1) := by intro m hm; rw [List.drop_drop]; congr 1; omega
      obtain ⟨t1, t2, t3⟩ := ih (s.drop 1) (by rw [List.length_drop]; omega)
      have m1 : cntA row (s.drop 1) ≤ cntA row s := by
        by_cases hl : row.length ≤ s.length
        · by_cases hb : isPre row s = true
          · rw [cntA_hit hr hb]
            have := t2 (row.length - 1) (by omega)
            rw [← hd row.length hp] at this
            omega
          · rw [Bool.not_eq_true] at hb
            rw [cntA_miss hr hl hb]
            omega
        · have : cntA row (s.drop 1) = 0 := cntA_short (by rw [List.length_drop]; omega)
          omega
      refine ⟨m1, fun m hm => ?_, fun i => ?_⟩
      · rcases Nat.eq_zero_or_pos m with h0 | h0
        · subst h0; rw [List.drop_zero]; omega
        · by_cases hl : row.length ≤ s.length
          · by_cases hb : isPre row s = true
            · rw [cntA_hit hr hb]
              obtain ⟨_, _, u3⟩ := ih (s.drop m) (by rw [List.length_drop]; omega)
              have := u3 (row.length - m)
              rw [List.drop_drop, show m + (row.length - m) = row.length from by omega] at this
              omega
            · rw [Bool.not_eq_true] at hb
              rw [cntA_miss hr hl hb, hd m h0]
              exact t2 (m - 1) (by omega)
          · rw [cntA_short (by omega)]; omega
      · rcases Nat.eq_zero_or_pos i with h0 | h0
        · subst h0; rw [List.drop_zero]; omega
        · rw [hd i h0]
          exact Nat.le_trans (t3 (i - 1)) m1

theorem cntA_drop {row : List UInt8} (hr : row ≠ []) (s : List UInt8) (i : Nat) : cntA row (s.drop i) ≤ cntA row s := (cntA_two hr s.length s (Nat.le_refl _)).2.2 i

/-- a row's beginning stands at least as often -/
theorem cntA_pre {a row : List UInt8} (ha : a ≠ []) (hp : isPre a row = true) : ∀ (n : Nat) (s : List UInt8), s.length ≤ n → cntA row s ≤ cntA a s := by
  have h1 := pos_of_ne ha
  have h2 := isPre_len hp
  have hr : row ≠ [] := by intro e; rw [e, List.length_nil] at h2; omega
  intro n
  induction n with
  | zero => intro s h; rw [List.eq_nil_of_length_eq_zero (by omega : s.length = 0), cntA_nil hr]; omega
  | succ n ih =>
    intro s h
    by_cases hl : row.length ≤ s.length
    · by_cases hb : isPre row s = true
      · have hb2 : isPre a s = true := by rw [isPre_split hb]; exact isPre_app hp _
        rw [cntA_hit hr hb, cntA_hit ha hb2]
        have h3 := ih (s.drop row.length) (by rw [List.length_drop]; omega)
        have h4 := cntA_drop ha (s.drop a.length) (row.length - a.length)
        rw [List.drop_drop, show a.length + (row.length - a.length) = row.length from by omega] at h4
        omega
      · rw [Bool.not_eq_true] at hb
        rw [cntA_miss hr hl hb]
        exact Nat.le_trans (ih (s.drop 1) (by rw [List.length_drop]; omega)) (cntA_drop ha s 1)
    · rw [cntA_short (by omega)]; omega

theorem cnt_pre {a row : List UInt8} (ha : a ≠ []) (hp : isPre a row = true) (ls : List (List UInt8)) : cnt row ls ≤ cnt a ls := by
  induction ls with
  | nil => exact Nat.le_refl _
  | cons p ls ih =>
    have h1 := cntA_pre ha hp p.length p (Nat.le_refl _)
    rw [cnt_cons, cnt_cons]
    show cntA row p + _ ≤ cntA a p + _
    omega

/-- two parts have no more occurrences than the whole -/
theorem cntA_add {k : List UInt8} (hk : k ≠ []) (b : List UInt8) : ∀ (n : Nat) (a : List UInt8), a.length ≤ n → cntA k a + cntA k b ≤ cntA k (a ++ b) := by
  have hp := pos_of_ne hk
  have short : ∀ a : List UInt8, a.length < k.length → cntA k a + cntA k b ≤ cntA k (a ++ b) := by
    intro a h
    rw [cntA_short h]
    have := cntA_drop hk (a ++ b) a.length
    rw [List.drop_left] at this
    omega
  intro n
  induction n with
  | zero => intro a h; exact short a (by omega)
  | succ n ih =>
    intro a h
    by_cases hl : k.length ≤ a.length
    · by_cases hb : isPre k a = true
      · rw [cntA_hit hk hb, cntA_hit hk (isPre_app hb b), List.drop_append_of_le_length hl]
        have := ih (a.drop k.length) (by rw [List.length_drop]; omega)
        omega
      · have hb2 : isPre k (a ++ b) = false := by
          rw [Bool.eq_false_iff]
          intro e
          rw [isPre_iff, List.take_append_of_le_length hl] at e
          exact hb (isPre_iff.2 e)
        rw [Bool.not_eq_true] at hb
        rw [cntA_miss hk hl hb, cntA_miss hk (by rw [List.length_append]; omega) hb2, List.drop_append_of_le_length (by omega)]
        exact ih (a.drop 1) (by rw [List.length_drop]; omega)
    · exact short a (by omega)

theorem splA_cnt {row k : List UInt8} (hr : row ≠ []) (hk : k ≠ []) (acc s : List UInt8) : cnt k (splA row acc s) ≤ cntA k (acc ++ s) := by
  refine splA_ind hr (Q := fun acc s l => cnt k l ≤ cntA k (acc ++ s)) ?_ ?_ ?_ s.length acc s (Nat.le_refl _)
  · intro acc s _; rw [cnt_cons]; exact Nat.le_refl _
  · intro acc s hb h
    rw [cnt_cons]
    rw [List.nil_append] at h
    have h1 := cntA_add hk s acc.length acc (Nat.le_refl _)
    have h2 := cntA_drop hk s row.length
    show cntA k acc + _ ≤ _
    omega
  · intro acc s _ h
    rw [take_drop_one] at h
    exact h

theorem flat_cnt {row k : List UInt8} (hr : row ≠ []) (hk : k ≠ []) (ls : List (List UInt8)) : cnt k (ls.flatMap (spl row)) ≤ cnt k ls := by
  induction ls with
  | nil => exact Nat.le_refl _
  | cons p ls ih =>
    have h := splA_cnt hr hk [] p
    rw [List.nil_append] at h
    have e : cnt k (spl row p ++ ls.flatMap (spl row)) = cnt k (spl row p) + cnt k (ls.flatMap (spl row)) := by unfold cnt; rw [List.map_append, List.sum_append]
    rw [List.flatMap_cons, e, cnt_cons]
    show _ ≤ cntA k p + _
    rw [spl_eq]
    omega

/-- what stands in texts stands in one of them, at a place -/
theorem cntA_at {row : List UInt8} (hr : row ≠ []) : ∀ (n : Nat) (s : List UInt8), s.length ≤ n → 0 < cntA row s → ∃ i, i < s.length ∧ isPre row (s.drop i) = true := by
  intro n
  induction n with
  | zero => intro s h h0; rw [List.eq_nil_of_length_eq_zero (by omega : s.length = 0), cntA_nil hr] at h0; omega
  | succ n ih =>
    intro s h h0
    by_cases hl : row.length ≤ s.length
    · have hp := pos_of_ne hr
      by_cases hb : isPre row s = true
      · exact ⟨0, by omega, by rw [List.drop_zero]; exact hb⟩
      · rw [Bool.not_eq_true] at hb
        rw [cntA_miss hr hl hb] at h0
        obtain ⟨i, hi, hpi⟩ := ih (s.drop 1) (by rw [List.length_drop]; omega) h0
        rw [List.length_drop] at hi
        exact ⟨i + 1, by omega, by rw [List.drop_drop] at hpi; rw [Nat.add_comm]; exact hpi⟩
    · rw [cntA_short (by omega)] at h0; omega

theorem rows_mem {row : List UInt8} {parts : List (List UInt8)} (h2 : 2 ≤ row.length) (h8 : row.length ≤ 8) (h0 : 0 < cnt row parts) : row ∈ parts.flatMap rowsOf := by
  have hr : row ≠ [] := by intro e; rw [e] at h2; simp at h2
  induction parts with
  | nil => simp [cnt] at h0
  | cons p parts ih =>
    rw [List.flatMap_cons, List.mem_append]
    rw [cnt_cons] at h0
    by_cases hp : 0 < cnt1 row p
    · left
      obtain ⟨i, hi, hpi⟩ := cntA_at hr p.length p (Nat.le_refl _) hp
      have hl := isPre_len hpi
      rw [List.length_drop] at hl
      unfold rowsOf
      rw [List.mem_flatMap]
      refine ⟨i, List.mem_range.2 hi, ?_⟩
      unfold rowsAt
      rw [List.mem_map]
      exact ⟨row.length, by rw [List.mem_range'_1]; omega, isPre_iff.1 hpi⟩
    · right
      exact ih (by omega)

/-- one of worth x is better than one of worth y -/
def btx (x : Int) (a : List UInt8) (y : Int) (b : List UInt8) : Prop := y < x ∨ (x = y ∧ (b.length < a.length ∨ (a.length = b.length ∧ a < b)))

theorem btx_trans {x y z : Int} {a b c : List UInt8} (h : btx x a y b) (h2 : btx y b z c) : btx x a z c := by
  unfold btx at *
  rcases h with h | ⟨h, h'⟩ <;> rcases h2 with h2 | ⟨h2, h2'⟩
  · left; omega
  · left; omega
  · left; omega
  · right
    refine ⟨by omega, ?_⟩
    rcases h' with h' | ⟨h', h''⟩ <;> rcases h2' with h2' | ⟨h2', h2''⟩
    · left; omega
    · left; omega
    · left; omega
    · right; exact ⟨by omega, List.lt_trans h'' h2''⟩

theorem btx_self {x : Int} {a : List UInt8} : ¬ btx x a x a := by
  unfold btx
  rintro (h | ⟨_, h | ⟨_, h⟩⟩)
  · exact absurd h (Int.lt_irrefl _)
  · exact absurd h (Nat.lt_irrefl _)
  · exact absurd h (List.lt_irrefl _)

/-- one is better than another -/
def bt (parts : List (List UInt8)) (a b : List UInt8) : Prop := savesI parts b < savesI parts a ∨ (savesI parts a = savesI parts b ∧ (b.length < a.length ∨ (a.length = b.length ∧ a < b)))

theorem ltB_iff : ∀ (a b : List UInt8), ltB a b = true ↔ a < b := by
  unfold ltB
  intro a
  induction a with
  | nil =>
    intro b
    cases b with
    | nil => simp [Op.bytesLess]
    | cons c b => simp [Op.bytesLess]
  | cons c a ih =>
    intro b
    cases b with
    | nil => simp [Op.bytesLess]
    | cons d b =>
      rw [Op.bytesLess, List.cons_lt_cons_iff]
      simp only [Bool.or_eq_true, Bool.and_eq_true, decide_eq_true_eq, beq_iff_eq, ih b]

theorem bt_trans {parts : List (List UInt8)} {a b c : List UInt8} (h : bt parts a b) (h2 : bt parts b c) : bt parts a c := by
  unfold bt at *
  rcases h with h | ⟨h, h'⟩ <;> rcases h2 with h2 | ⟨h2, h2'⟩
  · left; omega
  · left; omega
  · left; omega
  · right
    refine ⟨by omega, ?_⟩
    rcases h' with h' | ⟨h', h''⟩ <;> rcases h2' with h2' | ⟨h2', h2''⟩
    · left; omega
    · left; omega
    · left; omega
    · right; exact ⟨by omega, List.lt_trans h'' h2''⟩

theorem bt_total {parts : List (List UInt8)} {a b : List UInt8} (h : ¬ bt parts a b) (h2 : ¬ bt parts b a) : a = b := by
  unfold bt at *
  by_cases hs : savesI parts a = savesI parts b
  · by_cases hl : a.length = b.length
    · have k1 : ¬ a < b := fun e => h (.inr ⟨hs, .inr ⟨hl, e⟩⟩)
      have k2 : ¬ b < a := fun e => h2 (.inr ⟨hs.symm, .inr ⟨hl.symm, e⟩⟩)
      exact List.le_antisymm (List.not_lt.1 k2) (List.not_lt.1 k1)
    · rcases Nat.lt_or_gt_of_ne hl with e | e
      · exact absurd (.inr ⟨hs.symm, .inl e⟩) h2
      · exact absurd (.inr ⟨hs, .inl e⟩) h
  · rcases Int.lt_or_gt_of_ne hs with e | e
    · exact absurd (.inl e) h2
    · exact absurd (.inl e) h

/-- the best so far, held against a row -/
def over (parts : List (List UInt8)) (row : List UInt8) (b : List UInt8 × Int) : Prop := 0 < savesI parts row ∧ (b = ([], 0) ∨ bt parts row b.1)

theorem better_iff {parts : List (List UInt8)} {row : List UInt8} {b : List UInt8 × Int} (h : GoodB parts b) : better parts row b.1 b.2 = true ↔ over parts row b := by
  have e : better parts row b.1 b.2 = true ↔ (b.2 < savesI parts row ∨ ((savesI parts row = b.2 ∧ 0 < savesI parts row) ∧ (b.1.length < row.length ∨ (row.length = b.1.length ∧ row < b.1)))) := by
    unfold better
    simp only [Bool.or_eq_true, Bool.and_eq_true, decide_eq_true_eq, ltB_iff]
  rw [e]
  unfold over
  rcases h with rfl | ⟨h1, h2, h3, h4⟩
  · constructor
    · rintro (h | ⟨⟨_, h⟩, _⟩)
      · exact ⟨h, .inl rfl⟩
      · exact ⟨h, .inl rfl⟩
    · rintro ⟨h, _⟩
      exact .inl h
  · unfold bt
    rw [← h4]
    constructor
    · rintro (h | ⟨⟨h, h'⟩, h''⟩)
      · exact ⟨by omega, .inr (.inl h)⟩
      · exact ⟨h', .inr (.inr ⟨h, h''⟩)⟩
    · rintro ⟨h, hb | hb⟩
      · rw [hb] at h1; simp at h1
      · rcases hb with hb | ⟨hb, hb'⟩
        · exact .inl hb
        · exact .inr ⟨⟨hb, h⟩, hb'⟩

theorem fold_best {parts : List (List UInt8)} : ∀ (rows done : List (List UInt8)) (b : List UInt8 × Int), (∀ r ∈ rows, 2 ≤ r.length ∧ r.length ≤ 8) → GoodB parts b → (∀ r ∈ done, ¬ over parts r b) →
    ∀ r ∈ done ++ rows, ¬ over parts r (rows.foldl (stepB parts) b) := by
  intro rows
  induction rows with
  | nil => intro done b _ _ h r hr; rw [List.append_nil] at hr; exact h r hr
  | cons x rows ih =>
    intro done b hl hg h r hr
    rw [List.foldl_cons]
    have hx := hl x (by simp)
    have hg2 := stepB_good hg hx
    refine ih (done ++ [x]) (stepB parts b x) (fun r hr => hl r (by simp [hr])) hg2 ?_ r (by simpa using hr)
    intro r hr
    unfold stepB
    by_cases hb : better parts x b.1 b.2 = true
    · rw [if_pos hb]
      have ho := (better_iff hg).1 hb
      have hx0 : (x, savesI parts x) ≠ (([], 0) : List UInt8 × Int) := by intro e; have := congrArg Prod.fst e; simp only at this; rw [this] at hx; simp at hx
      rintro ⟨hr0, hr1⟩
      rcases hr1 with e | hr1
      · exact hx0 e
      · rcases List.mem_append.1 hr with hr | hr
        · refine h r hr ⟨hr0, ?_⟩
          rcases ho.2 with e | ho
          · exact .inl e
          · exact .inr (bt_trans hr1 ho)
        · rw [List.mem_singleton] at hr
          subst hr
          unfold bt at hr1
          rcases hr1 with hr1 | ⟨_, hr1 | ⟨_, hr1⟩⟩
          · exact absurd hr1 (Int.lt_irrefl _)
          · exact absurd hr1 (Nat.lt_irrefl _)
          · exact absurd hr1 (List.lt_irrefl _)
    · rw [if_neg hb]
      rcases List.mem_append.1 hr with hr | hr
      · exact h r hr
      · rw [List.mem_singleton] at hr
        subst hr
        exact fun e => hb ((better_iff hg).2 e)

theorem bestP_good (parts : List (List UInt8)) : GoodB parts (bestP parts parts ([], 0)) := fold_good _ _ (fun r hr => by
  obtain ⟨p, _, h⟩ := List.mem_flatMap.1 hr
  exact rowsOf_len r h) (.inl rfl)

/-- the best is the one that no other is better than -/
theorem bestL_is {parts : List (List UInt8)} {t : List UInt8} (h2 : 2 ≤ t.length) (h8 : t.length ≤ 8) (h0 : 0 < savesI parts t) (hc : 0 < cnt t parts)
    (hall : ∀ r, 2 ≤ r.length → r.length ≤ 8 → 0 < savesI parts r → ¬ bt parts r t) : bestL parts = t := by
  have hm := rows_mem h2 h8 hc
  have hn := fold_best (parts := parts) (parts.flatMap rowsOf) [] ([], 0) (fun r hr => by
    obtain ⟨p, _, h⟩ := List.mem_flatMap.1 hr
    exact rowsOf_len r h) (.inl rfl) (fun r hr => by simp at hr) t (by simpa using hm)
  have hg := bestP_good parts
  have hn' : ¬ over parts t (bestP parts parts ([], 0)) := hn
  unfold bestL
  rcases hg with hg | ⟨g1, g2, g3, g4⟩
  · exact absurd ⟨h0, .inl hg⟩ hn'
  · have k1 := hall (bestP parts parts ([], 0)).1 g1 g2 (by rw [← g4]; exact g3)
    exact bt_total k1 (fun e => hn' ⟨h0, .inr e⟩)

theorem bestL_none {parts : List (List UInt8)} (h : ∀ r, 2 ≤ r.length → r.length ≤ 8 → savesI parts r ≤ 0) : bestL parts = [] := by
  rcases bestL_good parts with e | ⟨e1, e2, e3⟩
  · exact e
  · have := h _ e1 e2
    omega

/-- counting from the left: how many so far, and where the last one ends -/
def scan (row p : List UInt8) : Nat → Nat × Nat
  | 0 => (0, 0)
  | i + 1 => if (scan row p i).2 ≤ i ∧ isPre row (p.drop i) = true then ((scan row p i).1 + 1, i + row.length) else scan row p i

theorem scan_succ (row p : List UInt8) (i : Nat) : scan row p (i + 1) = if (scan row p i).2 ≤ i ∧ isPre row (p.drop i) = true then ((scan row p i).1 + 1, i + row.length) else scan row p i := rfl

theorem scan_le {row p : List UInt8} (hr : row ≠ []) : ∀ i, (scan row p i).2 ≤ i + row.length ∧ (scan row p i).2 ≤ p.length ∧ (scan row p i).1 ≤ i := by
  have hp := pos_of_ne hr
  intro i
  induction i with
  | zero => exact ⟨Nat.zero_le _, Nat.zero_le _, Nat.le_refl _⟩
  | succ i ih =>
    rw [scan_succ]
    split
    · rename_i h
      have := isPre_len h.2
      rw [List.length_drop] at this
      refine ⟨by omega, ?_, ?_⟩
      · show i + row.length ≤ p.length; omega
      · show (scan row p i).1 + 1 ≤ i + 1; omega
    · omega

theorem scan_cnt {row : List UInt8} (hr : row ≠ []) (p : List UInt8) : ∀ i, (scan row p i).1 + cntA row (p.drop (max i (scan row p i).2)) = cntA row p := by
  have hp := pos_of_ne hr
  intro i
  induction i with
  | zero => show 0 + cntA row (p.drop (max 0 0)) = _; simp
  | succ i ih =>
    rw [scan_succ]
    split
    · rename_i h
      rw [Nat.max_eq_left h.1, cntA_hit hr h.2, List.drop_drop] at ih
      show (scan row p i).1 + 1 + cntA row (p.drop (max (i + 1) (i + row.length))) = _
      rw [Nat.max_eq_right (by omega)]
      omega
    · rename_i h
      by_cases hle : (scan row p i).2 ≤ i
      · have hb : isPre row (p.drop i) = false := by
          rw [Bool.eq_false_iff]
          exact fun e => h ⟨hle, e⟩
        rw [Nat.max_eq_left hle] at ih
        rw [Nat.max_eq_left (by omega), ← ih]
        by_cases hl : row.length ≤ (p.drop i).length
        · rw [cntA_miss hr hl hb, List.drop_drop]
        · rw [cntA_short (s := p.drop i) (by omega), cntA_short (s := p.drop (i + 1)) (by rw [List.length_drop] at *; omega)]
      · rw [Nat.max_eq_right (by omega)] at ih
        rw [Nat.max_eq_right (by omega)]
        exact ih

/-- .. to the end -/
theorem scan_all {row : List UInt8} (hr : row ≠ []) (p : List UInt8) (i : Nat) (h : p.length < i + row.length) : (scan row p i).1 = cnt1 row p := by
  have := scan_cnt hr p i
  rw [cntA_short (s := p.drop (max i (scan row p i).2)) (by rw [List.length_drop]; have := pos_of_ne hr; omega)] at this
  show _ = cntA row p
  omega

theorem scan_skip {row p : List UInt8} {i : Nat} (h : isPre row (p.drop i) = false) : scan row p (i + 1) = scan row p i := by
  rw [scan_succ, if_neg]
  rintro ⟨_, e⟩
  rw [h] at e
  cases e

end Go.Proofs.YtgeglhgkibcpfaaDoor
