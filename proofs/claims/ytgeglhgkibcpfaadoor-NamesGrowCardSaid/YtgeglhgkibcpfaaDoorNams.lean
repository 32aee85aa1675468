/- Slices of names (three cells each): rows that are read, rows of the call's own; rows of structs that begin with a name. No function of the program is named here. -/
import Derived.Test.YtgeglhgkibcpfaaDoorNamP
import Derived.Test.YtgeglhgkibcpfaaDoorToks
namespace Go.Proofs.YtgeglhgkibcpfaaDoor
open Go.RowKit

/-- a name as cells; names as cells; a name by value -/
def nmc (t : Nm) : List Value := [.string (bs t.name), .int .i64 t.kind, .int .i64 t.num]
def nmv (ts : List Nm) : List Value := ts.flatMap nmc
def nmV (t : Nm) : Value := .agg #[.string (bs t.name), .int .i64 t.kind, .int .i64 t.num]

theorem nmv_cons (t : Nm) (ts : List Nm) : nmv (t :: ts) = .string (bs t.name) :: .int .i64 t.kind :: .int .i64 t.num :: nmv ts := rfl
theorem nmv_append (a b : List Nm) : nmv (a ++ b) = nmv a ++ nmv b := by unfold nmv; rw [List.flatMap_append]
theorem nmv_len (ts : List Nm) : (nmv ts).length = ts.length * 3 := by
  induction ts with
  | nil => rfl
  | cons t ts ih =>
    rw [nmv_cons]
    simp only [List.length_cons]
    rw [ih]
    omega

theorem nmv_at : ∀ (ts : List Nm) (j : Nat), j < ts.length → (nmv ts)[j * 3]? = some (.string (bs (ts[j]?.getD noNm).name)) ∧ (nmv ts)[j * 3 + 1]? = some (.int .i64 (ts[j]?.getD noNm).kind) ∧ (nmv ts)[j * 3 + 2]? = some (.int .i64 (ts[j]?.getD noNm).num) := by
  intro ts
  induction ts with
  | nil => intro j h; simp at h
  | cons t ts ih =>
    intro j h
    cases j with
    | zero => exact ⟨rfl, rfl, rfl⟩
    | succ j =>
      rw [List.length_cons] at h
      obtain ⟨h1, h2, h3⟩ := ih j (by omega)
      rw [nmv_cons, show (j + 1) * 3 = j * 3 + 1 + 1 + 1 from by omega]
      exact ⟨h1, h2, h3⟩

/-- A slice (its address A, its length n) reads as the names ts; it lies below block B. -/
def RdN (w : World) (B : Nat) (A : Option Addr) (n : Nat) (ts : List Nm) : Prop :=
  ts.length = n ∧ (0 < n → ∃ ad : Addr, A = some ad ∧ ad.block < B ∧ ∀ j, j < ts.length → w.cell? (ad.add (j * 3)) = some (.string (bs (ts[j]?.getD noNm).name)) ∧
    w.cell? ⟨(ad.add (j * 3)).block, (ad.add (j * 3)).off + 1, none⟩ = some (.int .i64 (ts[j]?.getD noNm).kind) ∧ w.cell? ⟨(ad.add (j * 3)).block, (ad.add (j * 3)).off + 2, none⟩ = some (.int .i64 (ts[j]?.getD noNm).num))

theorem RdN.keep {w w' : World} {B : Nat} {A : Option Addr} {n : Nat} {ts : List Nm} (h : RdN w B A n ts) (hk : ∀ p : Addr, p.block < B → w'.cell? p = w.cell? p) : RdN w' B A n ts :=
  ⟨h.1, fun hn => by
    obtain ⟨ad, e, hb, hc⟩ := h.2 hn
    have hbj : ∀ j, (ad.add (j * 3)).block < B := fun j => by rw [blk_add]; exact hb
    refine ⟨ad, e, hb, fun j hj => ?_⟩
    obtain ⟨h1, h2, h3⟩ := hc j hj
    exact ⟨(hk _ (hbj j)).trans h1, (hk ⟨(ad.add (j * 3)).block, _, none⟩ (hbj j)).trans h2, (hk ⟨(ad.add (j * 3)).block, _, none⟩ (hbj j)).trans h3⟩⟩

theorem RdN.below {w w' : World} {B : Nat} {A : Option Addr} {n : Nat} {ts : List Nm} (h : RdN w B A n ts) (hb : Below B w w') : RdN w' B A n ts := h.keep fun _ hp => hb.cell hp

theorem RdN.more {w : World} {B B' : Nat} {A : Option Addr} {n : Nat} {ts : List Nm} (h : RdN w B A n ts) (hB : B ≤ B') : RdN w B' A n ts :=
  ⟨h.1, fun hn => by
    obtain ⟨ad, e, hb, hc⟩ := h.2 hn
    exact ⟨ad, e, by omega, hc⟩⟩

theorem RdN.nil (w : World) (B : Nat) (A : Option Addr) : RdN w B A 0 [] := ⟨rfl, fun h => absurd h (by omega)⟩

theorem ownN_len {w : World} {base : Nat} {e : TypeId} {v : Value} {n : Nat} {ts : List Nm} (h : w.ownsRow base e 3 v n (nmv ts)) : ts.length = n := by
  have := h.1
  rw [nmv_len] at this
  omega

theorem ownN_nil (w : World) (base : Nat) (e : TypeId) : w.ownsRow base e 3 (.slice none 0 0) 0 (nmv []) := ⟨rfl, .inl ⟨rfl, rfl⟩⟩

theorem RdN.of_own {w : World} {base : Nat} {e : TypeId} {A : Option Addr} {n c : Nat} {ts : List Nm} (h : w.ownsRow base e 3 (.slice A n c) n (nmv ts)) : RdN w w.heap.size A n ts := by
  have hl := ownN_len h
  refine ⟨hl, fun hn => ?_⟩
  obtain ⟨g, cap, hv, _, hlt⟩ := h.form hn
  have hA : A = some ⟨g, 0, none⟩ := by injection hv
  subst hA
  refine ⟨_, rfl, hlt, fun j hj => ?_⟩
  obtain ⟨h1, h2, h3⟩ := nmv_at ts j hj
  have k1 := h.cells (g := g) rfl _ _ h1
  have k2 := h.cells (g := g) rfl _ _ h2
  have k3 := h.cells (g := g) rfl _ _ h3
  rw [Addr.add_lit, Nat.zero_add] at k1 k2 k3
  rw [Addr.add_lit, Nat.zero_add]
  exact ⟨k1, k2, k3⟩

/-- What a function leaves that hands back names in a row of its own, and a fault. -/
def OutN (base : Nat) (t : TypeId) (w : World) (r : List Nm × (Int × Int × Int × List UInt8)) (e : Ending) (w' : World) : Prop :=
  ∃ A n c, e = .returned (.tuple #[.slice A n c, .agg #[.int .i64 r.2.1, .int .i64 r.2.2.1, .int .i64 r.2.2.2.1, .string (bs r.2.2.2.2)]]) ∧ w'.ownsRow base t 3 (.slice A n c) n (nmv r.1) ∧ Below base w w'

/-- A slice of structs of st cells each, whose first cells are texts; it lies below block B. -/
def RdX (st : Nat) (w : World) (B : Nat) (A : Option Addr) (n : Nat) (ls : List (List UInt8)) : Prop :=
  ls.length = n ∧ (0 < n → ∃ ad : Addr, A = some ad ∧ ad.block < B ∧ ∀ j, j < ls.length → w.cell? (ad.add (j * st)) = some (.string (bs (ls[j]?.getD []))))

theorem RdX.keep {st : Nat} {w w' : World} {B : Nat} {A : Option Addr} {n : Nat} {ls : List (List UInt8)} (h : RdX st w B A n ls) (hk : ∀ p : Addr, p.block < B → w'.cell? p = w.cell? p) : RdX st w' B A n ls :=
  ⟨h.1, fun hn => by
    obtain ⟨ad, e, hb, hc⟩ := h.2 hn
    exact ⟨ad, e, hb, fun j hj => (hk _ (by rw [blk_add]; exact hb)).trans (hc j hj)⟩⟩
theorem RdX.below {st : Nat} {w w' : World} {B : Nat} {A : Option Addr} {n : Nat} {ls : List (List UInt8)} (h : RdX st w B A n ls) (hb : Below B w w') : RdX st w' B A n ls := h.keep fun _ hp => hb.cell hp
theorem RdX.more {st : Nat} {w : World} {B B' : Nat} {A : Option Addr} {n : Nat} {ls : List (List UInt8)} (h : RdX st w B A n ls) (hB : B ≤ B') : RdX st w B' A n ls :=
  ⟨h.1, fun hn => by
    obtain ⟨ad, e, hb, hc⟩ := h.2 hn
    exact ⟨ad, e, by omega, hc⟩⟩
theorem RdX.nil {st : Nat} (w : World) (B : Nat) (A : Option Addr) : RdX st w B A 0 [] := ⟨rfl, fun h => absurd h (by omega)⟩

end Go.Proofs.YtgeglhgkibcpfaaDoor
