/- Names of a source: what declarations come to, in their order; names that rise. Plain functions on lists; no function of the program is named here. -/
import Derived.Test.YtgeglhgkibcpfaaDoorAbbP
namespace Go.Proofs.YtgeglhgkibcpfaaDoor
open Go.RowKit
set_option linter.unusedVariables false

/-- what a name stands for -/
structure Nm where
  name : List UInt8
  kind : Int
  num : Int
deriving DecidableEq

def noNm : Nm := ⟨[], 0, 0⟩

/-- a declaration: its kind, part, place, number, how many may be there -/
structure En where
  name : List UInt8
  kind : Int
  part : Int
  at_ : Nat
  num : Int
  most : Int

/-- what a source declares -/
structure Dl where
  fl : List (List UInt8)
  pr : List (List UInt8)
  gl : List (List UInt8)
  ob : List (List UInt8)
  ve : List (List UInt8)
  fu : List (List UInt8)
  da : List (List UInt8)

def entF (kind part off most : Int) : Nat → List (List UInt8) → List En
  | _, [] => []
  | i, s :: r => ⟨s, kind, part, i, i + off, most⟩ :: entF kind part off most (i + 1) r

def allE (d : Dl) : List En := entF 1 2 4 12 0 d.fl ++ (entF 2 3 0 16 0 d.pr ++ (entF 3 4 0 64 0 d.gl ++ (entF 4 5 2 126 0 d.ob ++ (entF 5 6 0 64 0 d.ve ++ (entF 6 8 0 64 0 d.fu ++ entF 7 9 0 16 0 d.da)))))
def cntD (d : Dl) : Nat := d.fl.length + d.pr.length + d.gl.length + d.ob.length + d.ve.length + d.fu.length + d.da.length

theorem entF_len (k p o m : Int) : ∀ (l : List (List UInt8)) (i : Nat), (entF k p o m i l).length = l.length := by
  intro l
  induction l with
  | nil => intro i; rfl
  | cons s r ih => intro i; show (entF k p o m (i + 1) r).length + 1 = _; rw [ih]; rfl
theorem allE_len (d : Dl) : (allE d).length = cntD d := by
  unfold allE cntD
  simp only [List.length_append, entF_len]
  omega
theorem entF_app (k p o m : Int) : ∀ (a b : List (List UInt8)) (i : Nat), entF k p o m i (a ++ b) = entF k p o m i a ++ entF k p o m (i + a.length) b := by
  intro a
  induction a with
  | nil => intro b i; rfl
  | cons s a ih =>
    intro b i
    show _ :: entF k p o m (i + 1) (a ++ b) = _ :: (entF k p o m (i + 1) a ++ _)
    rw [ih b (i + 1), List.length_cons, show i + 1 + a.length = i + (a.length + 1) from by omega]
theorem entF_mem {k p o m : Int} {e : En} : ∀ {l : List (List UInt8)} {i : Nat}, e ∈ entF k p o m i l → e.kind = k ∧ e.part = p ∧ e.num = e.at_ + o ∧ e.most = m ∧ i ≤ e.at_ ∧ e.at_ < i + l.length ∧ e.name ∈ l := by
  intro l
  induction l with
  | nil => intro i h; cases h
  | cons s r ih =>
    intro i h
    rcases List.mem_cons.mp h with rfl | h
    · exact ⟨rfl, rfl, rfl, rfl, Nat.le_refl _, by show i < i + (r.length + 1); omega, by simp⟩
    · obtain ⟨h1, h2, h3, h4, h5, h6, h7⟩ := ih h
      exact ⟨h1, h2, h3, h4, by omega, by rw [List.length_cons]; omega, by simp [h7]⟩

/-- the first with a name; with a kind and a number -/
def findI : List Nm → List UInt8 → Option Nm
  | [], _ => none
  | x :: r, s => if x.name = s then some x else findI r s
def textI : List Nm → Int → Int → List UInt8
  | [], _, _ => []
  | x :: r, k, n => if x.kind = k ∧ x.num = n then x.name else textI r k n
def ofR (k : Int) : Option Nm → Int × Int
  | none => (0, 11)
  | some x => if x.kind = k then (x.num, 0) else (0, 12)
def ofI (t : List Nm) (k : Int) (s : List UInt8) : Int × Int := ofR k (findI t s)

/-- a name in its place -/
def rankN : List Nm → List UInt8 → Nat
  | [], _ => 0
  | x :: r, s => if ltB x.name s = true then rankN r s + 1 else 0
def putN (t : List Nm) (n : Nm) : List Nm := t.take (rankN t n.name) ++ n :: t.drop (rankN t n.name)

theorem rankN_cons (x : Nm) (r : List Nm) (s : List UInt8) : rankN (x :: r) s = if ltB x.name s = true then rankN r s + 1 else 0 := rfl
theorem findI_cons (x : Nm) (r : List Nm) (s : List UInt8) : findI (x :: r) s = if x.name = s then some x else findI r s := rfl
theorem textI_cons (x : Nm) (r : List Nm) (k n : Int) : textI (x :: r) k n = if x.kind = k ∧ x.num = n then x.name else textI r k n := rfl

theorem rankN_le (t : List Nm) (s : List UInt8) : rankN t s ≤ t.length := by
  induction t with
  | nil => exact Nat.le_refl _
  | cons x r ih =>
    rw [rankN_cons]
    split
    · rw [List.length_cons]; omega
    · exact Nat.zero_le _
theorem putN_len (t : List Nm) (n : Nm) : (putN t n).length = t.length + 1 := by
  have := rankN_le t n.name
  unfold putN
  rw [List.length_append, List.length_cons, List.length_take, List.length_drop]
  omega
theorem putN_mem {t : List Nm} {n x : Nm} : x ∈ putN t n ↔ x = n ∨ x ∈ t := by
  unfold putN
  rw [List.mem_append, List.mem_cons]
  conv => rhs; rw [← List.take_append_drop (rankN t n.name) t, List.mem_append]
  constructor
  · rintro (h | h | h)
    · exact .inr (.inl h)
    · exact .inl h
    · exact .inr (.inr h)
  · rintro (h | h | h)
    · exact .inr (.inl h)
    · exact .inl h
    · exact .inr (.inr h)
theorem putN_cons (x : Nm) (r : List Nm) (n : Nm) : putN (x :: r) n = if ltB x.name n.name = true then x :: putN r n else n :: x :: r := by
  unfold putN
  rw [rankN_cons]
  split
  · rfl
  · rfl

/-- names that rise -/
def Rises (t : List Nm) : Prop := t.Pairwise fun a b => a.name < b.name
def riseB : List Nm → Bool
  | [] => true
  | x :: r => (match r with | [] => true | y :: _ => ltB x.name y.name) && riseB r

theorem rises_of {t : List Nm} (h : riseB t = true) : Rises t := by
  induction t with
  | nil => exact List.Pairwise.nil
  | cons x r ih =>
    unfold riseB at h
    rw [Bool.and_eq_true] at h
    have hr := ih h.2
    refine List.Pairwise.cons (fun y hy => ?_) hr
    cases r with
    | nil => cases hy
    | cons z r =>
      have hz : x.name < z.name := (ltB_iff _ _).1 h.1
      rcases List.mem_cons.mp hy with rfl | hy
      · exact hz
      · exact List.lt_trans hz ((List.pairwise_cons.1 hr).1 y hy)
theorem rise_of {t : List Nm} (h : Rises t) : riseB t = true := by
  induction t with
  | nil => rfl
  | cons x r ih =>
    obtain ⟨h1, h2⟩ := List.pairwise_cons.1 h
    unfold riseB
    rw [Bool.and_eq_true]
    refine ⟨?_, ih h2⟩
    cases r with
    | nil => rfl
    | cons z r => exact (ltB_iff _ _).2 (h1 z (by simp))

theorem findI_none {t : List Nm} {s : List UInt8} : findI t s = none ↔ ∀ x ∈ t, x.name ≠ s := by
  induction t with
  | nil => exact ⟨fun _ x h => (by cases h), fun _ => rfl⟩
  | cons y r ih =>
    rw [findI_cons]
    by_cases h : y.name = s
    · rw [if_pos h]
      exact ⟨fun e => (by cases e), fun e => absurd h (e y (by simp))⟩
    · rw [if_neg h, ih]
      constructor
      · intro e x hx
        rcases List.mem_cons.mp hx with rfl | hx
        · exact h
        · exact e x hx
      · intro e x hx
        exact e x (by simp [hx])
theorem findI_some {t : List Nm} {s : List UInt8} {x : Nm} (h : findI t s = some x) : x ∈ t ∧ x.name = s := by
  induction t with
  | nil => cases h
  | cons y r ih =>
    rw [findI_cons] at h
    by_cases e : y.name = s
    · rw [if_pos e] at h
      cases h
      exact ⟨by simp, e⟩
    · rw [if_neg e] at h
      obtain ⟨h1, h2⟩ := ih h
      exact ⟨by simp [h1], h2⟩
theorem Rises.inj {t : List Nm} (h : Rises t) {x y : Nm} (hx : x ∈ t) (hy : y ∈ t) (e : x.name = y.name) : x = y := by
  induction t with
  | nil => cases hx
  | cons z r ih =>
    obtain ⟨h1, h2⟩ := List.pairwise_cons.1 h
    rcases List.mem_cons.mp hx with hx1 | hx <;> rcases List.mem_cons.mp hy with hy1 | hy
    · rw [hx1, hy1]
    · have := h1 y hy
      rw [← hx1, e] at this
      exact absurd this (List.lt_irrefl _)
    · have := h1 x hx
      rw [← hy1, e] at this
      exact absurd this (List.lt_irrefl _)
    · exact ih h2 hx hy
theorem Rises.find {t : List Nm} (h : Rises t) {x : Nm} (hx : x ∈ t) : findI t x.name = some x := by
  cases hf : findI t x.name with
  | none => exact absurd rfl (findI_none.1 hf x hx)
  | some y =>
    obtain ⟨h1, h2⟩ := findI_some hf
    rw [h.inj h1 hx h2]
theorem Rises.put {t : List Nm} (h : Rises t) {n : Nm} (hn : findI t n.name = none) : Rises (putN t n) := by
  induction t with
  | nil => exact List.Pairwise.cons (fun y hy => by cases hy) List.Pairwise.nil
  | cons x r ih =>
    obtain ⟨h1, h2⟩ := List.pairwise_cons.1 h
    have hne := findI_none.1 hn
    rw [putN_cons]
    split
    · rename_i hl
      refine List.Pairwise.cons (fun y hy => ?_) (ih h2 (findI_none.2 fun z hz => hne z (by simp [hz])))
      rcases putN_mem.1 hy with rfl | hy
      · exact (ltB_iff _ _).1 hl
      · exact h1 y hy
    · rename_i hl
      have hlt : n.name < x.name := by
        have e1 : ¬ x.name < n.name := fun e => hl ((ltB_iff _ _).2 e)
        have e2 := hne x (by simp)
        by_cases e3 : n.name < x.name
        · exact e3
        · exact absurd (List.le_antisymm (List.not_lt.1 e3) (List.not_lt.1 e1)) e2
      refine List.Pairwise.cons (fun y hy => ?_) h
      rcases List.mem_cons.mp hy with rfl | hy
      · exact hlt
      · exact List.lt_trans hlt (h1 y hy)

section
variable (gd : List UInt8 → Bool)
/-- what is wrong with a declaration -/
def errE (t : List Nm) (e : En) : Int := if e.most ≤ e.at_ then 7 else if gd e.name = false then 9 else if (findI t e.name).isSome = true then 10 else 0
/-- the names, or what is wrong first -/
def makeF : List Nm → List En → List Nm × (Int × Int × Int × List UInt8)
  | t, [] => (t, (0, 0, 0, []))
  | t, e :: r => if errE gd t e = 0 then makeF (putN t ⟨e.name, e.kind, e.num⟩) r else ([], (errE gd t e, e.part, (e.at_ : Int), e.name))
end
theorem makeF_cons (gd : List UInt8 → Bool) (t : List Nm) (e : En) (r : List En) : makeF gd t (e :: r) = if errE gd t e = 0 then makeF gd (putN t ⟨e.name, e.kind, e.num⟩) r else ([], (errE gd t e, e.part, (e.at_ : Int), e.name)) := rfl
/-- the flags that each story has -/
def nms0 : List Nm := [⟨[98, 111, 120], 1, 2⟩, ⟨[104, 105, 100, 100, 101, 110], 1, 3⟩, ⟨[108, 105, 116], 1, 0⟩, ⟨[111, 112, 101, 110], 1, 1⟩]
def makeN (gd : List UInt8 → Bool) (d : Dl) : List Nm × (Int × Int × Int × List UInt8) := makeF gd nms0 (allE d)

theorem errE_zero {gd : List UInt8 → Bool} {t : List Nm} {e : En} (h : errE gd t e = 0) : e.at_ < e.most ∧ gd e.name = true ∧ findI t e.name = none := by
  unfold errE at h
  split at h
  · cases h
  · rename_i h1
    split at h
    · cases h
    · rename_i h2
      split at h
      · cases h
      · rename_i h3
        refine ⟨by omega, by simpa using h2, ?_⟩
        cases hf : findI t e.name with
        | none => rfl
        | some x => rw [hf] at h3; exact absurd rfl h3
theorem errE_some {gd : List UInt8 → Bool} {t : List Nm} {e : En} (h : errE gd t e ≠ 0) : errE gd t e = 7 ∨ errE gd t e = 9 ∨ errE gd t e = 10 := by
  unfold errE at h ⊢
  split
  · exact .inl rfl
  · split
    · exact .inr (.inl rfl)
    · split
      · exact .inr (.inr rfl)
      · rename_i h1 h2 h3
        rw [if_neg h1, if_neg h2, if_neg h3] at h
        exact absurd rfl h

/-- what is made without a fault -/
theorem makeF_ok {gd : List UInt8 → Bool} : ∀ {l : List En} {t : List Nm}, Rises t → (makeF gd t l).2.1 = 0 → Rises (makeF gd t l).1 ∧ (makeF gd t l).1.length = t.length + l.length ∧
    (∀ x, x ∈ (makeF gd t l).1 ↔ x ∈ t ∨ ∃ e ∈ l, x = ⟨e.name, e.kind, e.num⟩) ∧ (∀ e ∈ l, gd e.name = true) := by
  intro l
  induction l with
  | nil => intro t h _; exact ⟨h, rfl, fun x => ⟨.inl, fun h => h.elim id fun ⟨e, he, _⟩ => by cases he⟩, fun e he => by cases he⟩
  | cons e r ih =>
    intro t h hz
    rw [makeF_cons] at hz ⊢
    split at hz
    · rename_i h0
      rw [if_pos h0]
      obtain ⟨_, hg, hf⟩ := errE_zero h0
      obtain ⟨h1, h2, h3, h4⟩ := ih (t := putN t ⟨e.name, e.kind, e.num⟩) (h.put hf) hz
      refine ⟨h1, by rw [h2, putN_len, List.length_cons]; omega, fun x => ?_, fun y hy => ?_⟩
      · rw [h3, putN_mem]
        constructor
        · rintro ((rfl | hx) | ⟨y, hy, rfl⟩)
          · exact .inr ⟨e, by simp, rfl⟩
          · exact .inl hx
          · exact .inr ⟨y, by simp [hy], rfl⟩
        · rintro (hx | ⟨y, hy, rfl⟩)
          · exact .inl (.inr hx)
          · rcases List.mem_cons.mp hy with rfl | hy
            · exact .inl (.inl rfl)
            · exact .inr ⟨y, hy, rfl⟩
      · rcases List.mem_cons.mp hy with rfl | hy
        · exact hg
        · exact h4 y hy
    · rename_i h0
      exact absurd hz h0

/-- what is wrong: the names ahead are right -/
theorem makeF_bad {gd : List UInt8 → Bool} : ∀ {l : List En} {t : List Nm}, (makeF gd t l).2.1 ≠ 0 → (makeF gd t l).1 = [] ∧ ∃ a e r t2, l = a ++ e :: r ∧ (makeF gd t a).2 = (0, 0, 0, []) ∧ (makeF gd t l).2 = (errE gd t2 e, e.part, (e.at_ : Int), e.name) ∧ errE gd t2 e ≠ 0 := by
  intro l
  induction l with
  | nil => intro t h; exact absurd rfl h
  | cons e r ih =>
    intro t h
    rw [makeF_cons] at h ⊢
    split at h
    · rename_i h0
      rw [if_pos h0]
      obtain ⟨h1, a, e2, r2, t2, rfl, h3, h4, h5⟩ := ih h
      refine ⟨h1, e :: a, e2, r2, t2, rfl, ?_, h4, h5⟩
      rw [makeF_cons, if_pos h0]
      exact h3
    · rename_i h0
      rw [if_neg h0]
      exact ⟨rfl, [], e, r, t, rfl, rfl, rfl, h0⟩

theorem makeF_zero {gd : List UInt8 → Bool} : ∀ {l : List En} {t : List Nm}, (makeF gd t l).2.1 = 0 → (makeF gd t l).2 = (0, 0, 0, []) := by
  intro l
  induction l with
  | nil => intro t _; rfl
  | cons e r ih =>
    intro t h
    rw [makeF_cons] at h ⊢
    split at h
    · rename_i h0
      rw [if_pos h0]
      exact ih h
    · rename_i h0
      exact absurd h h0

theorem makeF_snoc {gd : List UInt8 → Bool} : ∀ {l : List En} {t : List Nm} {e : En}, makeF gd t (l ++ [e]) = if (makeF gd t l).2.1 = 0 then (if errE gd (makeF gd t l).1 e = 0 then (putN (makeF gd t l).1 ⟨e.name, e.kind, e.num⟩, (0, 0, 0, [])) else ([], (errE gd (makeF gd t l).1 e, e.part, (e.at_ : Int), e.name))) else makeF gd t l := by
  intro l
  induction l with
  | nil => intro t e; rfl
  | cons x r ih =>
    intro t e
    show makeF gd t (x :: (r ++ [e])) = _
    by_cases h0 : errE gd t x = 0
    · have e1 : ∀ l, makeF gd t (x :: l) = makeF gd (putN t ⟨x.name, x.kind, x.num⟩) l := fun l => by
        rw [makeF_cons, if_pos h0]
      rw [e1, e1, ih]
    · have e1 : ∀ l, makeF gd t (x :: l) = ([], (errE gd t x, x.part, (x.at_ : Int), x.name)) := fun l => by
        rw [makeF_cons, if_neg h0]
      rw [e1, e1]
      show _ = if errE gd t x = 0 then _ else _
      rw [if_neg h0]

/- numbers of a kind are there once -/
def ltK (a b : Int × Int) : Prop := a.1 < b.1 ∨ (a.1 = b.1 ∧ a.2 < b.2)
theorem entF_up (k p o m : Int) : ∀ (l : List (List UInt8)) (i : Nat), (entF k p o m i l).Pairwise fun a b => ltK (a.kind, a.num) (b.kind, b.num) := by
  intro l
  induction l with
  | nil => intro i; exact List.Pairwise.nil
  | cons s r ih =>
    intro i
    refine List.Pairwise.cons (fun y hy => ?_) (ih (i + 1))
    obtain ⟨h1, _, h3, _, h5, _, _⟩ := entF_mem hy
    right
    refine ⟨h1.symm, ?_⟩
    show (i : Int) + o < y.num
    rw [h3]
    omega
theorem allE_up (d : Dl) : (allE d).Pairwise fun a b => ltK (a.kind, a.num) (b.kind, b.num) := by
  have two : ∀ {a b : List En} (k : Int), a.Pairwise (fun a b => ltK (a.kind, a.num) (b.kind, b.num)) → b.Pairwise (fun a b => ltK (a.kind, a.num) (b.kind, b.num)) → (∀ x ∈ a, x.kind = k) → (∀ x ∈ b, k < x.kind) → (a ++ b).Pairwise (fun a b => ltK (a.kind, a.num) (b.kind, b.num)) := by
    intro a b k ha hb h1 h2
    rw [List.pairwise_append]
    exact ⟨ha, hb, fun x hx y hy => .inl (by show x.kind < y.kind; rw [h1 x hx]; exact h2 y hy)⟩
  have kind : ∀ {k p o m : Int} {l : List (List UInt8)}, ∀ x ∈ entF k p o m 0 l, x.kind = k := fun x hx => (entF_mem hx).1
  have gt : ∀ {k : Int} {a b : List En}, (∀ x ∈ a, k < x.kind) → (∀ x ∈ b, k < x.kind) → ∀ x ∈ a ++ b, k < x.kind := by
    intro k a b h1 h2 x hx
    rcases List.mem_append.mp hx with hx | hx
    · exact h1 x hx
    · exact h2 x hx
  have kd : ∀ {k0 k p o m : Int} {l : List (List UInt8)}, k0 < k → ∀ x ∈ entF k p o m 0 l, k0 < x.kind := fun h x hx => by rw [(entF_mem hx).1]; exact h
  unfold allE
  refine two 1 (entF_up _ _ _ _ _ _) (two 2 (entF_up _ _ _ _ _ _) (two 3 (entF_up _ _ _ _ _ _) (two 4 (entF_up _ _ _ _ _ _) (two 5 (entF_up _ _ _ _ _ _) (two 6 (entF_up _ _ _ _ _ _) (entF_up _ _ _ _ _ _) kind ?_) kind ?_) kind ?_) kind ?_) kind ?_) kind ?_
  all_goals repeat (first | exact kd (by decide) | refine gt (kd (by decide)) ?_)

theorem pair_inj {l : List En} (h : l.Pairwise fun a b => ltK (a.kind, a.num) (b.kind, b.num)) {x y : En} (hx : x ∈ l) (hy : y ∈ l) (e1 : x.kind = y.kind) (e2 : x.num = y.num) : x = y := by
  have irr : ∀ {a b : En}, a.kind = b.kind → a.num = b.num → ¬ ltK (a.kind, a.num) (b.kind, b.num) := by
    intro a b h1 h2 h3
    unfold ltK at h3
    simp only at h3
    omega
  induction l with
  | nil => cases hx
  | cons z r ih =>
    obtain ⟨h1, h2⟩ := List.pairwise_cons.1 h
    rcases List.mem_cons.mp hx with hx1 | hx <;> rcases List.mem_cons.mp hy with hy1 | hy
    · rw [hx1, hy1]
    · exact absurd (h1 y hy) (by rw [← hx1]; exact irr e1 e2)
    · exact absurd (h1 x hx) (by rw [← hy1]; exact irr e1.symm e2.symm)
    · exact ih h2 hx hy
theorem pair_split {l : List En} (h : l.Pairwise fun a b => ltK (a.kind, a.num) (b.kind, b.num)) : ∀ {a b r t : List En} {e : En}, l = a ++ e :: r → l = b ++ e :: t → a = b := by
  have irr : ∀ {a : En}, ¬ ltK (a.kind, a.num) (a.kind, a.num) := by
    intro a h3
    unfold ltK at h3
    simp only at h3
    omega
  intro a
  induction a generalizing l with
  | nil =>
    intro b r t e h1 h2
    cases b with
    | nil => rfl
    | cons y b =>
      rw [h1, List.nil_append, List.cons_append, List.cons.injEq] at h2
      obtain ⟨rfl, rfl⟩ := h2
      rw [h1] at h
      exact absurd ((List.pairwise_cons.1 h).1 e (by simp)) irr
  | cons x a ih =>
    intro b r t e h1 h2
    cases b with
    | nil =>
      rw [h1, List.nil_append, List.cons_append, List.cons.injEq] at h2
      obtain ⟨rfl, rfl⟩ := h2
      rw [h1] at h
      exact absurd ((List.pairwise_cons.1 h).1 x (by simp)) irr
    | cons y b =>
      have e3 := h1.symm.trans h2
      rw [List.cons_append, List.cons_append, List.cons.injEq] at e3
      obtain ⟨rfl, e4⟩ := e3
      rw [h1, List.cons_append] at h
      rw [ih (List.pairwise_cons.1 h).2 rfl e4]

theorem textI_of {t : List Nm} (hi : ∀ x ∈ t, ∀ y ∈ t, x.kind = y.kind → x.num = y.num → x = y) : ∀ {x : Nm}, x ∈ t → textI t x.kind x.num = x.name := by
  induction t with
  | nil => intro x h; cases h
  | cons y r ih =>
    intro x hx
    rw [textI_cons]
    split
    · rename_i h
      rw [hi y (by simp) x hx h.1 h.2]
    · rename_i h
      rcases List.mem_cons.mp hx with rfl | hx
      · exact absurd ⟨rfl, rfl⟩ h
      · exact ih (fun a ha b hb => hi a (by simp [ha]) b (by simp [hb])) hx

theorem nms0_rises : Rises nms0 := rises_of (by decide)

/-- of names that were made, one alone has a kind and a number -/
theorem makeN_inj {gd : List UInt8 → Bool} {d : Dl} (h : (makeN gd d).2.1 = 0) : ∀ x ∈ (makeN gd d).1, ∀ y ∈ (makeN gd d).1, x.kind = y.kind → x.num = y.num → x = y := by
  obtain ⟨_, _, hm, _⟩ := makeF_ok nms0_rises h
  have far : ∀ x ∈ nms0, x.kind = 1 ∧ x.num < 4 := by decide
  have ent : ∀ e ∈ allE d, e.kind = 1 → 4 ≤ e.num := by
    intro e he hk
    unfold allE at he
    simp only [List.mem_append] at he
    rcases he with he | he | he | he | he | he | he
    · obtain ⟨_, _, h3, _, h5, _, _⟩ := entF_mem he
      rw [h3]
      omega
    all_goals
      have := (entF_mem he).1
      omega
  intro x hx y hy e1 e2
  rcases (hm x).1 hx with hx | ⟨a, ha, rfl⟩ <;> rcases (hm y).1 hy with hy | ⟨b, hb, rfl⟩
  · have key : ∀ x ∈ nms0, ∀ y ∈ nms0, x.num = y.num → x = y := by decide
    exact key x hx y hy e2
  · obtain ⟨h1, h2⟩ := far x hx
    have := ent b hb (by show b.kind = 1; rw [← h1]; exact e1.symm)
    simp only at e2
    omega
  · obtain ⟨h1, h2⟩ := far y hy
    have := ent a ha (by show a.kind = 1; rw [← h1]; exact e1)
    simp only at e2
    omega
  · rw [pair_inj (allE_up d) ha hb e1 e2]

/-- each name that was made: found by itself, and by its number -/
theorem makeN_back {gd : List UInt8 → Bool} (hg0 : ∀ x ∈ nms0, gd x.name = true) {d : Dl} (h : (makeN gd d).2.1 = 0) : (makeN gd d).1.length = cntD d + 4 ∧ Rises (makeN gd d).1 ∧
    ∀ x ∈ (makeN gd d).1, findI (makeN gd d).1 x.name = some x ∧ ofI (makeN gd d).1 x.kind x.name = (x.num, 0) ∧ textI (makeN gd d).1 x.kind x.num = x.name ∧ gd x.name = true := by
  obtain ⟨h1, h2, h3, h4⟩ := makeF_ok nms0_rises h
  have h1' : Rises (makeN gd d).1 := h1
  refine ⟨by show (makeF gd nms0 (allE d)).1.length = _; rw [h2, allE_len]; show 4 + _ = _; omega, h1, fun x hx => ⟨h1'.find hx, ?_, textI_of (makeN_inj h) hx, ?_⟩⟩
  · unfold ofI
    rw [h1'.find hx]
    unfold ofR
    simp
  · rcases (h3 x).1 hx with hx | ⟨e, he, rfl⟩
    · exact hg0 x hx
    · exact h4 e he

/-- one name more -/
def growD (d : Dl) (s : List UInt8) : Dl := { d with da := d.da ++ [s] }
theorem allE_grow (d : Dl) (s : List UInt8) : allE (growD d s) = allE d ++ [⟨s, 7, 9, d.da.length, (d.da.length : Int) + 0, 16⟩] := by
  unfold allE growD
  simp only [entF_app, List.append_assoc, Nat.zero_add]
  rfl
theorem makeN_grow {gd : List UInt8 → Bool} {d : Dl} {s : List UInt8} : ((makeN gd d).2.1 ≠ 0 → makeN gd (growD d s) = makeN gd d) ∧
    ((makeN gd d).2.1 = 0 → (makeN gd (growD d s)).2.1 = 0 → findI (makeN gd d).1 s = none ∧ (makeN gd (growD d s)).1 = putN (makeN gd d).1 ⟨s, 7, d.da.length⟩ ∧ Rises (makeN gd (growD d s)).1) := by
  constructor
  · intro h
    show makeF gd nms0 (allE (growD d s)) = makeF gd nms0 (allE d)
    rw [allE_grow, makeF_snoc]
    exact if_neg h
  · intro h h2
    have hr : Rises (makeN gd (growD d s)).1 := (makeF_ok nms0_rises h2).1
    have e : makeN gd (growD d s) = if errE gd (makeN gd d).1 ⟨s, 7, 9, d.da.length, (d.da.length : Int) + 0, 16⟩ = 0 then (putN (makeN gd d).1 ⟨s, 7, (d.da.length : Int) + 0⟩, (0, 0, 0, [])) else ([], (errE gd (makeN gd d).1 ⟨s, 7, 9, d.da.length, (d.da.length : Int) + 0, 16⟩, 9, (d.da.length : Int), s)) := by
      show makeF gd nms0 (allE (growD d s)) = _
      rw [allE_grow, makeF_snoc]
      exact if_pos h
    by_cases h0 : errE gd (makeN gd d).1 ⟨s, 7, 9, d.da.length, (d.da.length : Int) + 0, 16⟩ = 0
    · rw [if_pos h0] at e
      obtain ⟨_, _, h5⟩ := errE_zero h0
      refine ⟨h5, ?_, hr⟩
      rw [e, Int.add_zero]
    · rw [if_neg h0] at e
      rw [e] at h2
      exact absurd h2 h0

/-- the part in which a fault is, and what is declared ahead of it alone -/
def aheadD (d : Dl) (part : Int) (n : Nat) : List (List UInt8) × Dl :=
  if part = 2 then (d.fl, ⟨d.fl.take n, [], [], [], [], [], []⟩) else
  if part = 3 then (d.pr, ⟨d.fl, d.pr.take n, [], [], [], [], []⟩) else
  if part = 4 then (d.gl, ⟨d.fl, d.pr, d.gl.take n, [], [], [], []⟩) else
  if part = 5 then (d.ob, ⟨d.fl, d.pr, d.gl, d.ob.take n, [], [], []⟩) else
  if part = 6 then (d.ve, ⟨d.fl, d.pr, d.gl, d.ob, d.ve.take n, [], []⟩) else
  if part = 8 then (d.fu, ⟨d.fl, d.pr, d.gl, d.ob, d.ve, d.fu.take n, []⟩) else
  if part = 9 then (d.da, ⟨d.fl, d.pr, d.gl, d.ob, d.ve, d.fu, d.da.take n⟩) else ([], d)

theorem entF_split {k p o m : Int} : ∀ {l : List (List UInt8)} {i : Nat} {e : En}, e ∈ entF k p o m i l → ∃ r, entF k p o m i l = entF k p o m i (l.take (e.at_ - i)) ++ e :: r ∧ l[e.at_ - i]? = some e.name := by
  intro l
  induction l with
  | nil => intro i e h; cases h
  | cons s l ih =>
    intro i e h
    rcases List.mem_cons.mp h with rfl | h
    · refine ⟨entF k p o m (i + 1) l, ?_, ?_⟩
      · show _ = entF k p o m i ((s :: l).take (i - i)) ++ _
        rw [Nat.sub_self, List.take_zero]
        rfl
      · show (s :: l)[i - i]? = some s
        rw [Nat.sub_self]
        rfl
    · obtain ⟨r, h1, h2⟩ := ih h
      have hi := (entF_mem h).2.2.2.2.1
      refine ⟨r, ?_, ?_⟩
      · rw [show e.at_ - i = (e.at_ - (i + 1)) + 1 from by omega, List.take_succ_cons]
        show _ :: entF k p o m (i + 1) l = _ :: (entF k p o m (i + 1) _ ++ _)
        rw [h1]
      · rw [show e.at_ - i = (e.at_ - (i + 1)) + 1 from by omega, List.getElem?_cons_succ]
        exact h2

theorem aheadD_all {d : Dl} {a r : List En} {e : En} (h : allE d = a ++ e :: r) : (aheadD d e.part e.at_).1[e.at_]? = some e.name ∧ allE (aheadD d e.part e.at_).2 = a := by
  have hm : e ∈ allE d := by rw [h]; simp
  have fin : ∀ {b t : List En}, allE d = b ++ e :: t → b = a := fun hb => pair_split (allE_up d) hb h
  have hm2 := hm
  unfold allE at hm2
  simp only [List.mem_append] at hm2
  rcases hm2 with hm2 | hm2 | hm2 | hm2 | hm2 | hm2 | hm2
  all_goals
    have hp := (entF_mem hm2).2.1
    obtain ⟨t, h1, h2⟩ := entF_split hm2
    rw [Nat.sub_zero] at h1 h2
    unfold aheadD
    simp only [hp]
    refine ⟨h2, ?_⟩
    refine fin (t := ?_) ?_
    rotate_left
    · unfold allE
      simp only [entF, List.append_nil, Int.reduceEq, if_true, if_false]
      rw [h1]
      simp only [List.append_assoc, List.cons_append]
      rfl

theorem makeN_bad {gd : List UInt8 → Bool} {d : Dl} {err part num : Int} {name : List UInt8} (h : (makeN gd d).2 = (err, part, num, name)) (h0 : err ≠ 0) :
    (makeN gd d).1 = [] ∧ (err = 7 ∨ err = 9 ∨ err = 10) ∧ ∃ n : Nat, num = n ∧ (aheadD d part n).1[n]? = some name ∧ (makeN gd (aheadD d part n).2).2 = (0, 0, 0, []) := by
  have h1 : (makeF gd nms0 (allE d)).2.1 ≠ 0 := by
    show (makeN gd d).2.1 ≠ 0
    rw [h]
    exact h0
  obtain ⟨h2, a, e, r, t2, h3, h4, h5, h6⟩ := makeF_bad h1
  have h7 := h.symm.trans h5
  simp only [Prod.mk.injEq] at h7
  obtain ⟨rfl, rfl, rfl, rfl⟩ := h7
  obtain ⟨h8, h9⟩ := aheadD_all h3
  refine ⟨h2, errE_some h6, e.at_, rfl, h8, ?_⟩
  show (makeF gd nms0 (allE _)).2 = _
  rw [h9]
  exact h4

end Go.Proofs.YtgeglhgkibcpfaaDoor
