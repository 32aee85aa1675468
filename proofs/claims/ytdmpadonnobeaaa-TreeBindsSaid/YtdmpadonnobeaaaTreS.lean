/- Lists of statements: how they lie in memory, how many and how deep they are. No function of the program is named here. -/
import Derived.Test.YtdmpadonnobeaaaTreL
namespace Go.Proofs.Ytdmpadonnobeaaa
open Go.RowKit
set_option linter.unusedVariables false

/-- a statement, with where its lists lie -/
inductive SL where
  | mk (kind num : Int) (name : List UInt8) (A : Option Addr) (n c : Nat) (args : List EL) (A1 : Option Addr) (n1 c1 : Nat) (body : List SL) (A2 : Option Addr) (n2 c2 : Nat) (els : List SL)

namespace SL
def kind : SL → Int | .mk k _ _ _ _ _ _ _ _ _ _ _ _ _ _ => k
def num : SL → Int | .mk _ m _ _ _ _ _ _ _ _ _ _ _ _ _ => m
def name : SL → List UInt8 | .mk _ _ s _ _ _ _ _ _ _ _ _ _ _ _ => s
def A : SL → Option Addr | .mk _ _ _ A _ _ _ _ _ _ _ _ _ _ _ => A
def n : SL → Nat | .mk _ _ _ _ n _ _ _ _ _ _ _ _ _ _ => n
def c : SL → Nat | .mk _ _ _ _ _ c _ _ _ _ _ _ _ _ _ => c
def args : SL → List EL | .mk _ _ _ _ _ _ as _ _ _ _ _ _ _ _ => as
def A1 : SL → Option Addr | .mk _ _ _ _ _ _ _ A _ _ _ _ _ _ _ => A
def n1 : SL → Nat | .mk _ _ _ _ _ _ _ _ n _ _ _ _ _ _ => n
def c1 : SL → Nat | .mk _ _ _ _ _ _ _ _ _ c _ _ _ _ _ => c
def body : SL → List SL | .mk _ _ _ _ _ _ _ _ _ _ b _ _ _ _ => b
def A2 : SL → Option Addr | .mk _ _ _ _ _ _ _ _ _ _ _ A _ _ _ => A
def n2 : SL → Nat | .mk _ _ _ _ _ _ _ _ _ _ _ _ n _ _ => n
def c2 : SL → Nat | .mk _ _ _ _ _ _ _ _ _ _ _ _ _ c _ => c
def els : SL → List SL | .mk _ _ _ _ _ _ _ _ _ _ _ _ _ _ b => b
end SL

def nilS : SL := .mk 0 0 [] none 0 0 [] none 0 0 [] none 0 0 []
/-- a statement by value -/
def sCells (s : SL) : Array Value := #[.int .i64 s.kind, .int .i64 s.num, .string (bs s.name), .slice s.A s.n s.c, .slice s.A1 s.n1 s.c1, .slice s.A2 s.n2 s.c2]
def sVal (s : SL) : Value := .agg (sCells s)

/-- a row of statements -/
def RowS6 (w : World) (B : Nat) (A : Option Addr) (n : Nat) (ss : List SL) : Prop :=
  ss.length = n ∧ (n : Int) ≤ 9223372036854775807 ∧ (0 < n → ∃ ad : Addr, A = some ad ∧ ad.block < B ∧ ∀ j, j < ss.length → w.cell? (ad.add (j * 6)) = some (.int .i64 (ss[j]?.getD nilS).kind) ∧
    w.cell? ⟨(ad.add (j * 6)).block, (ad.add (j * 6)).off + 1, none⟩ = some (.int .i64 (ss[j]?.getD nilS).num) ∧ w.cell? ⟨(ad.add (j * 6)).block, (ad.add (j * 6)).off + 2, none⟩ = some (.string (bs (ss[j]?.getD nilS).name)) ∧
    w.cell? ⟨(ad.add (j * 6)).block, (ad.add (j * 6)).off + 3, none⟩ = some (.slice (ss[j]?.getD nilS).A (ss[j]?.getD nilS).n (ss[j]?.getD nilS).c) ∧ w.cell? ⟨(ad.add (j * 6)).block, (ad.add (j * 6)).off + 4, none⟩ = some (.slice (ss[j]?.getD nilS).A1 (ss[j]?.getD nilS).n1 (ss[j]?.getD nilS).c1) ∧
    w.cell? ⟨(ad.add (j * 6)).block, (ad.add (j * 6)).off + 5, none⟩ = some (.slice (ss[j]?.getD nilS).A2 (ss[j]?.getD nilS).n2 (ss[j]?.getD nilS).c2))

theorem RowS6.keep {w w' : World} {B : Nat} {A : Option Addr} {n : Nat} {ss : List SL} (h : RowS6 w B A n ss) (hk : ∀ p : Addr, p.block < B → w'.cell? p = w.cell? p) : RowS6 w' B A n ss :=
  ⟨h.1, h.2.1, fun hn => by
    obtain ⟨ad, e, hb, hc⟩ := h.2.2 hn
    have hbj : ∀ j, (ad.add (j * 6)).block < B := fun j => by rw [blk_add]; exact hb
    refine ⟨ad, e, hb, fun j hj => ?_⟩
    obtain ⟨h1, h2, h3, h4, h5, h6⟩ := hc j hj
    exact ⟨(hk _ (hbj j)).trans h1, (hk ⟨(ad.add (j * 6)).block, _, none⟩ (hbj j)).trans h2, (hk ⟨(ad.add (j * 6)).block, _, none⟩ (hbj j)).trans h3, (hk ⟨(ad.add (j * 6)).block, _, none⟩ (hbj j)).trans h4, (hk ⟨(ad.add (j * 6)).block, _, none⟩ (hbj j)).trans h5, (hk ⟨(ad.add (j * 6)).block, _, none⟩ (hbj j)).trans h6⟩⟩

theorem RowS6.below {w w' : World} {B : Nat} {A : Option Addr} {n : Nat} {ss : List SL} (h : RowS6 w B A n ss) (hb : Below B w w') : RowS6 w' B A n ss := h.keep fun _ hp => hb.cell hp

theorem RowS6.more {w : World} {B B' : Nat} {A : Option Addr} {n : Nat} {ss : List SL} (h : RowS6 w B A n ss) (hB : B ≤ B') : RowS6 w B' A n ss :=
  ⟨h.1, h.2.1, fun hn => by
    obtain ⟨ad, e, hb, hc⟩ := h.2.2 hn
    exact ⟨ad, e, by omega, hc⟩⟩

/- a statement, and all below it, lies in the world -/
mutual
def SL.In (w : World) (B : Nat) : SL → Prop
  | .mk _ m s A n _ args A1 n1 _ body A2 n2 _ els => ((-9223372036854775808 ≤ m ∧ m ≤ 9223372036854775807) ∧ (s.length : Int) ≤ 9223372036854775807 ∧ (RowE w B A n args ∧ EL.Ins w B args) ∧ RowS6 w B A1 n1 body ∧ RowS6 w B A2 n2 els) ∧ SL.Ins w B body ∧ SL.Ins w B els
def SL.Ins (w : World) (B : Nat) : List SL → Prop
  | [] => True
  | x :: r => SL.In w B x ∧ SL.Ins w B r
end

theorem SL.Ins.mem {w : World} {B : Nat} : ∀ {l : List SL}, SL.Ins w B l → ∀ x ∈ l, SL.In w B x := by
  intro l
  induction l with
  | nil => intro _ x h; cases h
  | cons y r ih =>
    intro h x hx
    unfold SL.Ins at h
    rcases List.mem_cons.mp hx with rfl | hx
    · exact h.1
    · exact ih h.2 x hx

theorem SL.Ins.of {w : World} {B : Nat} : ∀ {l : List SL}, (∀ x ∈ l, SL.In w B x) → SL.Ins w B l := by
  intro l
  induction l with
  | nil => intro _; unfold SL.Ins; trivial
  | cons y r ih =>
    intro h
    unfold SL.Ins
    exact ⟨h y (by simp), ih fun x hx => h x (by simp [hx])⟩

theorem SL.In.parts {w : World} {B : Nat} {s : SL} (h : s.In w B) : ((-9223372036854775808 ≤ s.num ∧ s.num ≤ 9223372036854775807) ∧ (s.name.length : Int) ≤ 9223372036854775807 ∧ (RowE w B s.A s.n s.args ∧ EL.Ins w B s.args) ∧ RowS6 w B s.A1 s.n1 s.body ∧ RowS6 w B s.A2 s.n2 s.els) ∧ SL.Ins w B s.body ∧ SL.Ins w B s.els := by
  cases s
  unfold SL.In at h
  exact h
theorem SL.In.mk {w : World} {B : Nat} {s : SL} (h : ((-9223372036854775808 ≤ s.num ∧ s.num ≤ 9223372036854775807) ∧ (s.name.length : Int) ≤ 9223372036854775807 ∧ (RowE w B s.A s.n s.args ∧ EL.Ins w B s.args) ∧ RowS6 w B s.A1 s.n1 s.body ∧ RowS6 w B s.A2 s.n2 s.els) ∧ SL.Ins w B s.body ∧ SL.Ins w B s.els) : s.In w B := by
  cases s
  unfold SL.In
  exact h
theorem SL.Ins.at {w : World} {B : Nat} {l : List SL} (h : SL.Ins w B l) {j : Nat} (hj : j < l.length) : (l[j]?.getD nilS).In w B := by
  rw [List.getElem?_eq_getElem hj]
  exact SL.Ins.mem h _ (List.getElem_mem _)

/- how many -/
mutual
def sizeS : SL → Nat
  | .mk _ _ _ _ _ _ _ _ _ _ body _ _ _ els => 1 + sizeSs body + sizeSs els
def sizeSs : List SL → Nat
  | [] => 0
  | x :: r => sizeS x + sizeSs r
end
theorem sizeS_eq (s : SL) : sizeS s = 1 + sizeSs s.body + sizeSs s.els := by
  cases s
  unfold sizeS
  rfl
theorem sizeSs_cons (x : SL) (r : List SL) : sizeSs (x :: r) = sizeS x + sizeSs r := by
  conv => lhs; unfold sizeSs
theorem sizeSs_app (a b : List SL) : sizeSs (a ++ b) = sizeSs a + sizeSs b := by
  induction a with
  | nil => rw [List.nil_append]; unfold sizeSs; omega
  | cons x a ih => rw [List.cons_append, sizeSs_cons, sizeSs_cons, ih]; omega
theorem sizeS_mem {x : SL} {l : List SL} (h : x ∈ l) : sizeS x ≤ sizeSs l := by
  induction l with
  | nil => cases h
  | cons y r ih =>
    rw [sizeSs_cons]
    rcases List.mem_cons.mp h with rfl | h
    · omega
    · have := ih h; omega
theorem sizeSs_take {l : List SL} {j : Nat} (h : j < l.length) : sizeSs (l.take (j + 1)) = sizeSs (l.take j) + sizeS (l[j]?.getD nilS) := by
  rw [List.take_succ_eq_append_getElem h, sizeSs_app, List.getElem?_eq_getElem h]
  congr 1

/-- induction by size -/
theorem SL.ind {p : SL → Prop} (h : ∀ s, (∀ x ∈ s.body, p x) → (∀ x ∈ s.els, p x) → p s) : ∀ s, p s := by
  have key : ∀ (k : Nat) (s : SL), sizeS s ≤ k → p s := by
    intro k
    induction k with
    | zero => intro s hs; rw [sizeS_eq] at hs; omega
    | succ k ih =>
      intro s hs
      rw [sizeS_eq] at hs
      exact h s (fun x hx => ih x (by have := sizeS_mem hx; omega)) (fun x hx => ih x (by have := sizeS_mem hx; omega))
  intro s
  exact key _ s (Nat.le_refl _)

theorem SL.In.keep {w w' : World} {B : Nat} (hk : ∀ p : Addr, p.block < B → w'.cell? p = w.cell? p) : ∀ {s : SL}, s.In w B → s.In w' B := by
  intro s
  refine SL.ind (p := fun s => s.In w B → s.In w' B) (fun s ih1 ih2 h => ?_) s
  obtain ⟨⟨h1, h2, ⟨h3, h4⟩, h5, h6⟩, h7, h8⟩ := h.parts
  exact SL.In.mk ⟨⟨h1, h2, ⟨h3.keep hk, EL.Ins.of fun x hx => (EL.Ins.mem h4 x hx).keep hk⟩, h5.keep hk, h6.keep hk⟩, SL.Ins.of fun x hx => ih1 x hx (SL.Ins.mem h7 x hx), SL.Ins.of fun x hx => ih2 x hx (SL.Ins.mem h8 x hx)⟩
theorem SL.In.below {w w' : World} {B : Nat} {s : SL} (h : s.In w B) (hb : Below B w w') : s.In w' B := h.keep fun _ hp => hb.cell hp
theorem SL.In.more {w : World} {B B' : Nat} (hB : B ≤ B') : ∀ {s : SL}, s.In w B → s.In w B' := by
  intro s
  refine SL.ind (p := fun s => s.In w B → s.In w B') (fun s ih1 ih2 h => ?_) s
  obtain ⟨⟨h1, h2, ⟨h3, h4⟩, h5, h6⟩, h7, h8⟩ := h.parts
  exact SL.In.mk ⟨⟨h1, h2, ⟨h3.more hB, h4.more hB⟩, h5.more hB, h6.more hB⟩, SL.Ins.of fun x hx => ih1 x hx (SL.Ins.mem h7 x hx), SL.Ins.of fun x hx => ih2 x hx (SL.Ins.mem h8 x hx)⟩
theorem SL.Ins.below {w w' : World} {B : Nat} {l : List SL} (h : SL.Ins w B l) (hb : Below B w w') : SL.Ins w' B l := SL.Ins.of fun x hx => (SL.Ins.mem h x hx).below hb
theorem SL.Ins.more {w : World} {B B' : Nat} {l : List SL} (h : SL.Ins w B l) (hB : B ≤ B') : SL.Ins w B' l := SL.Ins.of fun x hx => (SL.Ins.mem h x hx).more hB

/- how deep: a list's depth -/
mutual
def depS : SL → Nat
  | .mk _ _ _ _ _ _ as _ _ _ body _ _ _ els => max (depEs as) (max (depSs body) (depSs els))
def depSs : List SL → Nat
  | [] => 0
  | x :: r => max (depS x + 1) (depSs r)
end
theorem depS_eq (s : SL) : depS s = max (depEs s.args) (max (depSs s.body) (depSs s.els)) := by
  cases s
  unfold depS
  rfl
theorem depSs_cons (x : SL) (r : List SL) : depSs (x :: r) = max (depS x + 1) (depSs r) := by
  conv => lhs; unfold depSs

/- the same? -/
mutual
def sameS : SL → SL → Bool
  | .mk k m s _ _ _ as _ _ _ body _ _ _ els, t => decide (k = t.kind) && decide (m = t.num) && decide (s = t.name) && sameEs as t.args && sameSs body t.body && sameSs els t.els
def sameSs : List SL → List SL → Bool
  | [], l => l.isEmpty
  | x :: r, l => match l with
    | [] => false
    | y :: t => sameS x y && sameSs r t
end
theorem sameS_eq (s t : SL) : sameS s t = (decide (s.kind = t.kind) && decide (s.num = t.num) && decide (s.name = t.name) && sameEs s.args t.args && sameSs s.body t.body && sameSs s.els t.els) := by
  cases s
  unfold sameS
  rfl
theorem sameSs_cons (x y : SL) (r t : List SL) : sameSs (x :: r) (y :: t) = (sameS x y && sameSs r t) := by
  conv => lhs; unfold sameSs
theorem sameSs_len : ∀ {a b : List SL}, sameSs a b = true → a.length = b.length := by
  intro a
  induction a with
  | nil =>
    intro b h
    unfold sameSs at h
    rw [List.isEmpty_iff] at h
    rw [h]
  | cons x a ih =>
    intro b h
    cases b with
    | nil => unfold sameSs at h; cases h
    | cons y b =>
      rw [sameSs_cons, Bool.and_eq_true] at h
      rw [List.length_cons, List.length_cons, ih h.2]

theorem sameEs_refl : ∀ l : List EL, sameEs l l = true := by
  intro l
  induction l with
  | nil => unfold sameEs; rfl
  | cons x r ih => rw [sameEs_cons, sameE_refl, ih]; rfl
theorem sameSs_refl_of : ∀ l : List SL, (∀ x ∈ l, sameS x x = true) → sameSs l l = true := by
  intro l
  induction l with
  | nil => intro _; unfold sameSs; rfl
  | cons x r ih =>
    intro h
    rw [sameSs_cons, h x (by simp), ih fun y hy => h y (by simp [hy])]
    rfl
theorem sameS_refl : ∀ s : SL, sameS s s = true := by
  refine SL.ind fun s ih1 ih2 => ?_
  rw [sameS_eq, sameEs_refl, sameSs_refl_of _ ih1, sameSs_refl_of _ ih2]
  simp
theorem sameSs_refl (l : List SL) : sameSs l l = true := sameSs_refl_of l fun x _ => sameS_refl x

theorem sameEs_sizes : ∀ a b : List EL, sameEs a b = true → sizeEs a = sizeEs b ∧ depEs a = depEs b := by
  intro a
  induction a with
  | nil =>
    intro b h
    unfold sameEs at h
    rw [List.isEmpty_iff] at h
    rw [h]
    exact ⟨rfl, rfl⟩
  | cons x a ih =>
    intro b h
    cases b with
    | nil => unfold sameEs at h; cases h
    | cons y b =>
      rw [sameEs_cons, Bool.and_eq_true] at h
      obtain ⟨h1, h2⟩ := ih b h.2
      obtain ⟨h3, h4⟩ := sameE_sizes x y h.1
      rw [sizeEs_cons, sizeEs_cons, depEs_cons, depEs_cons, h1, h2, h3, h4]
      exact ⟨rfl, rfl⟩

theorem sameSs_sizes_of : ∀ a b : List SL, (∀ x ∈ a, ∀ t : SL, sameS x t = true → sizeS x = sizeS t ∧ depS x = depS t) → sameSs a b = true → sizeSs a = sizeSs b ∧ depSs a = depSs b := by
  intro a
  induction a with
  | nil =>
    intro b _ h
    unfold sameSs at h
    rw [List.isEmpty_iff] at h
    rw [h]
    exact ⟨rfl, rfl⟩
  | cons x a ih =>
    intro b hx h
    cases b with
    | nil => unfold sameSs at h; cases h
    | cons y b =>
      rw [sameSs_cons, Bool.and_eq_true] at h
      obtain ⟨h1, h2⟩ := ih b (fun z hz => hx z (by simp [hz])) h.2
      obtain ⟨h3, h4⟩ := hx x (by simp) y h.1
      rw [sizeSs_cons, sizeSs_cons, depSs_cons, depSs_cons, h1, h2, h3, h4]
      exact ⟨rfl, rfl⟩
theorem sameS_sizes : ∀ s t : SL, sameS s t = true → sizeS s = sizeS t ∧ depS s = depS t := by
  refine SL.ind fun s ih1 ih2 t h => ?_
  rw [sameS_eq] at h
  simp only [Bool.and_eq_true] at h
  obtain ⟨⟨⟨_, ha⟩, hb⟩, hc⟩ := h
  obtain ⟨_, h2⟩ := sameEs_sizes _ _ ha
  obtain ⟨h3, h4⟩ := sameSs_sizes_of _ _ ih1 hb
  obtain ⟨h5, h6⟩ := sameSs_sizes_of _ _ ih2 hc
  rw [sizeS_eq, sizeS_eq t, depS_eq, depS_eq t, h2, h3, h4, h5, h6]
  exact ⟨rfl, rfl⟩
theorem sameSs_sizes (a b : List SL) (h : sameSs a b = true) : sizeSs a = sizeSs b ∧ depSs a = depSs b := sameSs_sizes_of a b (fun x _ t => sameS_sizes x t) h

theorem sameSs_at : ∀ {a b : List SL}, a.length = b.length → (sameSs a b = true ↔ ∀ j, j < a.length → sameS (a[j]?.getD nilS) (b[j]?.getD nilS) = true) := by
  intro a
  induction a with
  | nil =>
    intro b h
    rw [List.length_nil] at h
    rw [List.eq_nil_of_length_eq_zero h.symm]
    unfold sameSs
    exact ⟨fun _ j hj => absurd hj (Nat.not_lt_zero _), fun _ => rfl⟩
  | cons x a ih =>
    intro b h
    cases b with
    | nil => rw [List.length_nil, List.length_cons] at h; omega
    | cons y b =>
      rw [List.length_cons, List.length_cons] at h
      rw [sameSs_cons, Bool.and_eq_true, ih (by omega)]
      constructor
      · rintro ⟨h1, h2⟩ j hj
        cases j with
        | zero => exact h1
        | succ j => exact h2 j (by rw [List.length_cons] at hj; omega)
      · intro h2
        exact ⟨h2 0 (by rw [List.length_cons]; omega), fun j hj => h2 (j + 1) (by rw [List.length_cons]; omega)⟩

end Go.Proofs.Ytdmpadonnobeaaa
