/- Trees of expressions and of statements: how they lie in memory, how great and how deep they are. No function of the program is named here. -/
import Derived.Test.YtdmpadonnobeaaaToks
namespace Go.Proofs.Ytdmpadonnobeaaa
open Go.RowKit
set_option linter.unusedVariables false

/-- an expression, with where its list lies -/
inductive EL where
  | mk (kind op num : Int) (name : List UInt8) (A : Option Addr) (n c : Nat) (args : List EL)

namespace EL
def kind : EL → Int | .mk k _ _ _ _ _ _ _ => k
def op : EL → Int | .mk _ o _ _ _ _ _ _ => o
def num : EL → Int | .mk _ _ m _ _ _ _ _ => m
def name : EL → List UInt8 | .mk _ _ _ s _ _ _ _ => s
def A : EL → Option Addr | .mk _ _ _ _ A _ _ _ => A
def n : EL → Nat | .mk _ _ _ _ _ n _ _ => n
def c : EL → Nat | .mk _ _ _ _ _ _ c _ => c
def args : EL → List EL | .mk _ _ _ _ _ _ _ as => as
end EL

def nilE : EL := .mk 0 0 0 [] none 0 0 []
/-- an expression by value -/
def eCells (e : EL) : Array Value := #[.int .i64 e.kind, .int .i64 e.op, .int .i64 e.num, .string (bs e.name), .slice e.A e.n e.c]
def eVal (e : EL) : Value := .agg (eCells e)

/-- a row of expressions -/
def RowE (w : World) (B : Nat) (A : Option Addr) (n : Nat) (es : List EL) : Prop :=
  es.length = n ∧ (n : Int) ≤ 9223372036854775807 ∧ (0 < n → ∃ ad : Addr, A = some ad ∧ ad.block < B ∧ ∀ j, j < es.length → w.cell? (ad.add (j * 5)) = some (.int .i64 (es[j]?.getD nilE).kind) ∧
    w.cell? ⟨(ad.add (j * 5)).block, (ad.add (j * 5)).off + 1, none⟩ = some (.int .i64 (es[j]?.getD nilE).op) ∧ w.cell? ⟨(ad.add (j * 5)).block, (ad.add (j * 5)).off + 2, none⟩ = some (.int .i64 (es[j]?.getD nilE).num) ∧
    w.cell? ⟨(ad.add (j * 5)).block, (ad.add (j * 5)).off + 3, none⟩ = some (.string (bs (es[j]?.getD nilE).name)) ∧ w.cell? ⟨(ad.add (j * 5)).block, (ad.add (j * 5)).off + 4, none⟩ = some (.slice (es[j]?.getD nilE).A (es[j]?.getD nilE).n (es[j]?.getD nilE).c))

theorem RowE.keep {w w' : World} {B : Nat} {A : Option Addr} {n : Nat} {es : List EL} (h : RowE w B A n es) (hk : ∀ p : Addr, p.block < B → w'.cell? p = w.cell? p) : RowE w' B A n es :=
  ⟨h.1, h.2.1, fun hn => by
    obtain ⟨ad, e, hb, hc⟩ := h.2.2 hn
    have hbj : ∀ j, (ad.add (j * 5)).block < B := fun j => by rw [blk_add]; exact hb
    refine ⟨ad, e, hb, fun j hj => ?_⟩
    obtain ⟨h1, h2, h3, h4, h5⟩ := hc j hj
    exact ⟨(hk _ (hbj j)).trans h1, (hk ⟨(ad.add (j * 5)).block, _, none⟩ (hbj j)).trans h2, (hk ⟨(ad.add (j * 5)).block, _, none⟩ (hbj j)).trans h3, (hk ⟨(ad.add (j * 5)).block, _, none⟩ (hbj j)).trans h4, (hk ⟨(ad.add (j * 5)).block, _, none⟩ (hbj j)).trans h5⟩⟩

theorem RowE.below {w w' : World} {B : Nat} {A : Option Addr} {n : Nat} {es : List EL} (h : RowE w B A n es) (hb : Below B w w') : RowE w' B A n es := h.keep fun _ hp => hb.cell hp

theorem RowE.more {w : World} {B B' : Nat} {A : Option Addr} {n : Nat} {es : List EL} (h : RowE w B A n es) (hB : B ≤ B') : RowE w B' A n es :=
  ⟨h.1, h.2.1, fun hn => by
    obtain ⟨ad, e, hb, hc⟩ := h.2.2 hn
    exact ⟨ad, e, by omega, hc⟩⟩

/- an expression, and all below it, lies in the world -/
mutual
def EL.In (w : World) (B : Nat) : EL → Prop
  | .mk _ _ m s A n _ args => ((-9223372036854775808 ≤ m ∧ m ≤ 9223372036854775807) ∧ (s.length : Int) ≤ 9223372036854775807 ∧ RowE w B A n args) ∧ EL.Ins w B args
def EL.Ins (w : World) (B : Nat) : List EL → Prop
  | [] => True
  | x :: r => EL.In w B x ∧ EL.Ins w B r
end

theorem EL.Ins.mem {w : World} {B : Nat} : ∀ {l : List EL}, EL.Ins w B l → ∀ x ∈ l, EL.In w B x := by
  intro l
  induction l with
  | nil => intro _ x h; cases h
  | cons y r ih =>
    intro h x hx
    unfold EL.Ins at h
    rcases List.mem_cons.mp hx with rfl | hx
    · exact h.1
    · exact ih h.2 x hx

theorem EL.Ins.of {w : World} {B : Nat} : ∀ {l : List EL}, (∀ x ∈ l, EL.In w B x) → EL.Ins w B l := by
  intro l
  induction l with
  | nil => intro _; unfold EL.Ins; trivial
  | cons y r ih =>
    intro h
    unfold EL.Ins
    exact ⟨h y (by simp), ih fun x hx => h x (by simp [hx])⟩

theorem EL.In.row {w : World} {B : Nat} {e : EL} (h : e.In w B) : RowE w B e.A e.n e.args := by
  cases e
  unfold EL.In at h
  exact h.1.2.2
theorem EL.In.args {w : World} {B : Nat} {e : EL} (h : e.In w B) : EL.Ins w B e.args := by
  cases e
  unfold EL.In at h
  exact h.2
theorem EL.In.fit {w : World} {B : Nat} {e : EL} (h : e.In w B) : (-9223372036854775808 ≤ e.num ∧ e.num ≤ 9223372036854775807) ∧ (e.name.length : Int) ≤ 9223372036854775807 := by
  cases e
  unfold EL.In at h
  exact ⟨h.1.1, h.1.2.1⟩
theorem EL.In.at {w : World} {B : Nat} {e : EL} (h : e.In w B) {j : Nat} (hj : j < e.n) : (e.args[j]?.getD nilE).In w B := by
  have hl := h.row.1
  rw [List.getElem?_eq_getElem (by omega)]
  exact EL.Ins.mem h.args _ (List.getElem_mem _)
theorem EL.Ins.at {w : World} {B : Nat} {l : List EL} (h : EL.Ins w B l) {j : Nat} (hj : j < l.length) : (l[j]?.getD nilE).In w B := by
  rw [List.getElem?_eq_getElem hj]
  exact EL.Ins.mem h _ (List.getElem_mem _)

/- how great -/
mutual
def sizeE : EL → Nat
  | .mk _ _ _ _ _ _ _ as => 1 + sizeEs as
def sizeEs : List EL → Nat
  | [] => 0
  | x :: r => sizeE x + sizeEs r
end

theorem sizeE_eq (e : EL) : sizeE e = 1 + sizeEs e.args := by
  cases e
  unfold sizeE
  rfl
theorem sizeEs_cons (x : EL) (r : List EL) : sizeEs (x :: r) = sizeE x + sizeEs r := by
  conv => lhs; unfold sizeEs
theorem sizeEs_app (a b : List EL) : sizeEs (a ++ b) = sizeEs a + sizeEs b := by
  induction a with
  | nil => rw [List.nil_append]; unfold sizeEs; omega
  | cons x a ih => rw [List.cons_append, sizeEs_cons, sizeEs_cons, ih]; omega
theorem sizeE_mem {x : EL} {l : List EL} (h : x ∈ l) : sizeE x ≤ sizeEs l := by
  induction l with
  | nil => cases h
  | cons y r ih =>
    rw [sizeEs_cons]
    rcases List.mem_cons.mp h with rfl | h
    · omega
    · have := ih h; omega
theorem sizeEs_take {l : List EL} {j : Nat} (h : j < l.length) : sizeEs (l.take (j + 1)) = sizeEs (l.take j) + sizeE (l[j]?.getD nilE) := by
  rw [List.take_succ_eq_append_getElem h, sizeEs_app, List.getElem?_eq_getElem h]
  congr 1
theorem sizeE_at {l : List EL} {j : Nat} (h : j < l.length) : sizeE (l[j]?.getD nilE) ≤ sizeEs l := by
  rw [List.getElem?_eq_getElem h]
  exact sizeE_mem (List.getElem_mem h)

/-- induction by size -/
theorem EL.ind {p : EL → Prop} (h : ∀ e, (∀ x ∈ e.args, p x) → p e) : ∀ e, p e := by
  have key : ∀ (k : Nat) (e : EL), sizeE e ≤ k → p e := by
    intro k
    induction k with
    | zero => intro e he; rw [sizeE_eq] at he; omega
    | succ k ih =>
      intro e he
      rw [sizeE_eq] at he
      exact h e fun x hx => ih x (by have := sizeE_mem hx; omega)
  intro e
  exact key _ e (Nat.le_refl _)

theorem EL.In.keep {w w' : World} {B : Nat} (hk : ∀ p : Addr, p.block < B → w'.cell? p = w.cell? p) : ∀ {e : EL}, e.In w B → e.In w' B := by
  intro e
  refine EL.ind (p := fun e => e.In w B → e.In w' B) (fun e ih h => ?_) e
  cases e
  unfold EL.In at h ⊢
  exact ⟨⟨h.1.1, h.1.2.1, h.1.2.2.keep hk⟩, EL.Ins.of fun x hx => ih x hx (EL.Ins.mem h.2 x hx)⟩
theorem EL.In.below {w w' : World} {B : Nat} {e : EL} (h : e.In w B) (hb : Below B w w') : e.In w' B := h.keep fun _ hp => hb.cell hp
theorem EL.In.more {w : World} {B B' : Nat} (hB : B ≤ B') : ∀ {e : EL}, e.In w B → e.In w B' := by
  intro e
  refine EL.ind (p := fun e => e.In w B → e.In w B') (fun e ih h => ?_) e
  cases e
  unfold EL.In at h ⊢
  exact ⟨⟨h.1.1, h.1.2.1, h.1.2.2.more hB⟩, EL.Ins.of fun x hx => ih x hx (EL.Ins.mem h.2 x hx)⟩
theorem EL.Ins.below {w w' : World} {B : Nat} {l : List EL} (h : EL.Ins w B l) (hb : Below B w w') : EL.Ins w' B l := EL.Ins.of fun x hx => (EL.Ins.mem h x hx).below hb
theorem EL.Ins.more {w : World} {B B' : Nat} {l : List EL} (h : EL.Ins w B l) (hB : B ≤ B') : EL.Ins w B' l := EL.Ins.of fun x hx => (EL.Ins.mem h x hx).more hB

/- how deep -/
mutual
def depE : EL → Nat
  | .mk _ _ _ _ _ _ _ as => depEs as + 1
def depEs : List EL → Nat
  | [] => 0
  | x :: r => max (depE x) (depEs r)
end
theorem depE_eq (e : EL) : depE e = depEs e.args + 1 := by
  cases e
  unfold depE
  rfl
theorem depEs_cons (x : EL) (r : List EL) : depEs (x :: r) = max (depE x) (depEs r) := by
  conv => lhs; unfold depEs
theorem depEs_mem {x : EL} {l : List EL} (h : x ∈ l) : depE x ≤ depEs l := by
  induction l with
  | nil => cases h
  | cons y r ih =>
    rw [depEs_cons]
    rcases List.mem_cons.mp h with rfl | h
    · exact Nat.le_max_left _ _
    · exact Nat.le_trans (ih h) (Nat.le_max_right _ _)
theorem depEs_app (a b : List EL) : depEs (a ++ b) = max (depEs a) (depEs b) := by
  induction a with
  | nil => rw [List.nil_append]; unfold depEs; rw [Nat.zero_max]
  | cons x a ih => rw [List.cons_append, depEs_cons, depEs_cons, ih, Nat.max_assoc]
theorem depEs_take {l : List EL} {j : Nat} (h : j < l.length) : depEs (l.take (j + 1)) = max (depEs (l.take j)) (depE (l[j]?.getD nilE)) := by
  rw [List.take_succ_eq_append_getElem h, depEs_app, List.getElem?_eq_getElem h, depEs_cons]
  congr 1
  show max (depE l[j]) (depEs []) = depE l[j]
  unfold depEs
  exact Nat.max_zero _
/-- cut off -/
def depC (k : Nat) (e : EL) : Nat := min k (depE e)

theorem depE_pos (e : EL) : 1 ≤ depE e := by rw [depE_eq]; exact Nat.succ_le_succ (Nat.zero_le _)

/- the same? -/
mutual
def sameE : EL → EL → Bool
  | .mk k o m s _ _ _ as, f => decide (k = f.kind) && decide (o = f.op) && decide (m = f.num) && decide (s = f.name) && sameEs as f.args
def sameEs : List EL → List EL → Bool
  | [], l => l.isEmpty
  | x :: r, l => match l with
    | [] => false
    | y :: t => sameE x y && sameEs r t
end
theorem sameE_eq (e f : EL) : sameE e f = (decide (e.kind = f.kind) && decide (e.op = f.op) && decide (e.num = f.num) && decide (e.name = f.name) && sameEs e.args f.args) := by
  cases e
  unfold sameE
  rfl
theorem sameEs_cons (x y : EL) (r t : List EL) : sameEs (x :: r) (y :: t) = (sameE x y && sameEs r t) := by
  conv => lhs; unfold sameEs
theorem sameEs_len : ∀ {a b : List EL}, sameEs a b = true → a.length = b.length := by
  intro a
  induction a with
  | nil =>
    intro b h
    unfold sameEs at h
    rw [List.isEmpty_iff] at h
    rw [h]
  | cons x a ih =>
    intro b h
    cases b with
    | nil => unfold sameEs at h; cases h
    | cons y b =>
      rw [sameEs_cons, Bool.and_eq_true] at h
      rw [List.length_cons, List.length_cons, ih h.2]

theorem sameE_refl : ∀ e : EL, sameE e e = true := by
  refine EL.ind fun e ih => ?_
  have key : ∀ l : List EL, (∀ x ∈ l, sameE x x = true) → sameEs l l = true := by
    intro l
    induction l with
    | nil => intro _; unfold sameEs; rfl
    | cons x r ihl =>
      intro h
      rw [sameEs_cons, h x (by simp), ihl fun y hy => h y (by simp [hy])]
      rfl
  rw [sameE_eq, key e.args ih]
  simp

/-- the same trees are as great, and as deep -/
theorem sameE_sizes : ∀ e f : EL, sameE e f = true → sizeE e = sizeE f ∧ depE e = depE f := by
  refine EL.ind fun e ih f h => ?_
  have key : ∀ a b : List EL, (∀ x ∈ a, ∀ f : EL, sameE x f = true → sizeE x = sizeE f ∧ depE x = depE f) → sameEs a b = true → sizeEs a = sizeEs b ∧ depEs a = depEs b := by
    intro a
    induction a with
    | nil =>
      intro b _ h
      unfold sameEs at h
      rw [List.isEmpty_iff] at h
      rw [h]
      exact ⟨rfl, rfl⟩
    | cons x a iha =>
      intro b hx h
      cases b with
      | nil => unfold sameEs at h; cases h
      | cons y b =>
        rw [sameEs_cons, Bool.and_eq_true] at h
        obtain ⟨h1, h2⟩ := iha b (fun z hz => hx z (by simp [hz])) h.2
        obtain ⟨h3, h4⟩ := hx x (by simp) y h.1
        rw [sizeEs_cons, sizeEs_cons, depEs_cons, depEs_cons, h1, h2, h3, h4]
        exact ⟨rfl, rfl⟩
  rw [sameE_eq, Bool.and_eq_true] at h
  obtain ⟨h1, h2⟩ := key e.args f.args ih h.2
  rw [sizeE_eq, sizeE_eq f, depE_eq, depE_eq f, h1, h2]
  exact ⟨rfl, rfl⟩

/-- so far the same -/
theorem sameEs_at : ∀ {a b : List EL}, a.length = b.length → (sameEs a b = true ↔ ∀ j, j < a.length → sameE (a[j]?.getD nilE) (b[j]?.getD nilE) = true) := by
  intro a
  induction a with
  | nil =>
    intro b h
    rw [List.length_nil] at h
    rw [List.eq_nil_of_length_eq_zero h.symm]
    unfold sameEs
    exact ⟨fun _ j hj => absurd hj (Nat.not_lt_zero _), fun _ => rfl⟩
  | cons x a ih =>
    intro b h
    cases b with
    | nil => rw [List.length_nil, List.length_cons] at h; omega
    | cons y b =>
      rw [List.length_cons, List.length_cons] at h
      rw [sameEs_cons, Bool.and_eq_true, ih (by omega)]
      constructor
      · rintro ⟨h1, h2⟩ j hj
        cases j with
        | zero => exact h1
        | succ j => exact h2 j (by rw [List.length_cons] at hj; omega)
      · intro h2
        exact ⟨h2 0 (by rw [List.length_cons]; omega), fun j hj => h2 (j + 1) (by rw [List.length_cons]; omega)⟩

end Go.Proofs.Ytdmpadonnobeaaa
