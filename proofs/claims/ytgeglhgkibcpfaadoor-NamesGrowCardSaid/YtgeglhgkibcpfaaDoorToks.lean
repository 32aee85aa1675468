/- Slices of tokens (five cells each): rows that are read, rows of the call's own. No function of the program is named here. -/
import Derived.Test.YtgeglhgkibcpfaaDoorIntS
import Derived.Test.YtgeglhgkibcpfaaDoorStrs
import Derived.Test.YtgeglhgkibcpfaaDoorLexP
namespace Go.Proofs.YtgeglhgkibcpfaaDoor
open Go.RowKit

def noTk : Tk := ⟨0, [], 0, 0, 0⟩

/-- a token as cells; tokens as cells -/
def tkc (t : Tk) : List Value := [.int .i64 t.kind, .string (bs t.text), .int .i64 t.num, .int .i64 t.line, .int .i64 t.col]
def tkv (ts : List Tk) : List Value := ts.flatMap tkc
/-- a token by value -/
def tkV (t : Tk) : Value := .agg #[.int .i64 t.kind, .string (bs t.text), .int .i64 t.num, .int .i64 t.line, .int .i64 t.col]

theorem tkv_cons (t : Tk) (ts : List Tk) : tkv (t :: ts) = .int .i64 t.kind :: .string (bs t.text) :: .int .i64 t.num :: .int .i64 t.line :: .int .i64 t.col :: tkv ts := rfl
theorem tkv_append (a b : List Tk) : tkv (a ++ b) = tkv a ++ tkv b := by unfold tkv; rw [List.flatMap_append]
theorem tkv_len (ts : List Tk) : (tkv ts).length = ts.length * 5 := by
  induction ts with
  | nil => rfl
  | cons t ts ih =>
    rw [tkv_cons]
    simp only [List.length_cons]
    rw [ih]
    omega

theorem tkv_at : ∀ (ts : List Tk) (j : Nat), j < ts.length → (tkv ts)[j * 5]? = some (.int .i64 (ts[j]?.getD noTk).kind) ∧ (tkv ts)[j * 5 + 1]? = some (.string (bs (ts[j]?.getD noTk).text)) ∧ (tkv ts)[j * 5 + 2]? = some (.int .i64 (ts[j]?.getD noTk).num) ∧ (tkv ts)[j * 5 + 3]? = some (.int .i64 (ts[j]?.getD noTk).line) ∧ (tkv ts)[j * 5 + 4]? = some (.int .i64 (ts[j]?.getD noTk).col) := by
  intro ts
  induction ts with
  | nil => intro j h; simp at h
  | cons t ts ih =>
    intro j h
    cases j with
    | zero => exact ⟨rfl, rfl, rfl, rfl, rfl⟩
    | succ j =>
      rw [List.length_cons] at h
      obtain ⟨h1, h2, h3, h4, h5⟩ := ih j (by omega)
      rw [tkv_cons, show (j + 1) * 5 = j * 5 + 1 + 1 + 1 + 1 + 1 from by omega]
      exact ⟨h1, h2, h3, h4, h5⟩

/-- A slice (its address A, its length n) reads as the tokens ts; it lies below block B. -/
def RdT (w : World) (B : Nat) (A : Option Addr) (n : Nat) (ts : List Tk) : Prop :=
  ts.length = n ∧ (0 < n → ∃ ad : Addr, A = some ad ∧ ad.block < B ∧ ∀ j, j < ts.length → w.cell? (ad.add (j * 5)) = some (.int .i64 (ts[j]?.getD noTk).kind) ∧
    w.cell? ⟨(ad.add (j * 5)).block, (ad.add (j * 5)).off + 1, none⟩ = some (.string (bs (ts[j]?.getD noTk).text)) ∧ w.cell? ⟨(ad.add (j * 5)).block, (ad.add (j * 5)).off + 2, none⟩ = some (.int .i64 (ts[j]?.getD noTk).num) ∧
    w.cell? ⟨(ad.add (j * 5)).block, (ad.add (j * 5)).off + 3, none⟩ = some (.int .i64 (ts[j]?.getD noTk).line) ∧ w.cell? ⟨(ad.add (j * 5)).block, (ad.add (j * 5)).off + 4, none⟩ = some (.int .i64 (ts[j]?.getD noTk).col))

theorem RdT.keep {w w' : World} {B : Nat} {A : Option Addr} {n : Nat} {ts : List Tk} (h : RdT w B A n ts) (hk : ∀ p : Addr, p.block < B → w'.cell? p = w.cell? p) : RdT w' B A n ts :=
  ⟨h.1, fun hn => by
    obtain ⟨ad, e, hb, hc⟩ := h.2 hn
    have hbj : ∀ j, (ad.add (j * 5)).block < B := fun j => by rw [blk_add]; exact hb
    refine ⟨ad, e, hb, fun j hj => ?_⟩
    obtain ⟨h1, h2, h3, h4, h5⟩ := hc j hj
    exact ⟨(hk _ (hbj j)).trans h1, (hk ⟨(ad.add (j * 5)).block, _, none⟩ (hbj j)).trans h2, (hk ⟨(ad.add (j * 5)).block, _, none⟩ (hbj j)).trans h3, (hk ⟨(ad.add (j * 5)).block, _, none⟩ (hbj j)).trans h4, (hk ⟨(ad.add (j * 5)).block, _, none⟩ (hbj j)).trans h5⟩⟩

theorem RdT.below {w w' : World} {B : Nat} {A : Option Addr} {n : Nat} {ts : List Tk} (h : RdT w B A n ts) (hb : Below B w w') : RdT w' B A n ts := h.keep fun _ hp => hb.cell hp

theorem RdT.more {w : World} {B B' : Nat} {A : Option Addr} {n : Nat} {ts : List Tk} (h : RdT w B A n ts) (hB : B ≤ B') : RdT w B' A n ts :=
  ⟨h.1, fun hn => by
    obtain ⟨ad, e, hb, hc⟩ := h.2 hn
    exact ⟨ad, e, by omega, hc⟩⟩

theorem RdT.nil (w : World) (B : Nat) (A : Option Addr) : RdT w B A 0 [] := ⟨rfl, fun h => absurd h (by omega)⟩

theorem ownT_len {w : World} {base : Nat} {e : TypeId} {v : Value} {n : Nat} {ts : List Tk} (h : w.ownsRow base e 5 v n (tkv ts)) : ts.length = n := by
  have := h.1
  rw [tkv_len] at this
  omega

theorem ownT_nil (w : World) (base : Nat) (e : TypeId) : w.ownsRow base e 5 (.slice none 0 0) 0 (tkv []) := ⟨rfl, .inl ⟨rfl, rfl⟩⟩

theorem RdT.of_own {w : World} {base : Nat} {e : TypeId} {A : Option Addr} {n c : Nat} {ts : List Tk} (h : w.ownsRow base e 5 (.slice A n c) n (tkv ts)) : RdT w w.heap.size A n ts := by
  have hl := ownT_len h
  refine ⟨hl, fun hn => ?_⟩
  obtain ⟨g, cap, hv, _, hlt⟩ := h.form hn
  have hA : A = some ⟨g, 0, none⟩ := by injection hv
  subst hA
  refine ⟨_, rfl, hlt, fun j hj => ?_⟩
  obtain ⟨h1, h2, h3, h4, h5⟩ := tkv_at ts j hj
  have k1 := h.cells (g := g) rfl _ _ h1
  have k2 := h.cells (g := g) rfl _ _ h2
  have k3 := h.cells (g := g) rfl _ _ h3
  have k4 := h.cells (g := g) rfl _ _ h4
  have k5 := h.cells (g := g) rfl _ _ h5
  rw [Addr.add_lit, Nat.zero_add] at k1 k2 k3 k4 k5
  rw [Addr.add_lit, Nat.zero_add]
  exact ⟨k1, k2, k3, k4, k5⟩

/-- What a function leaves that hands back tokens in a row of its own, and an error with its place. -/
def OutT (base : Nat) (t : TypeId) (w : World) (r : List Tk × (Int × Int × Int)) (e : Ending) (w' : World) : Prop :=
  ∃ A n c, e = .returned (.tuple #[.slice A n c, .agg #[.int .i64 r.2.1, .int .i64 r.2.2.1, .int .i64 r.2.2.2]]) ∧ w'.ownsRow base t 5 (.slice A n c) n (tkv r.1) ∧ Below base w w'

/-- APPEND of one token, which lies in a new block, onto a row of the call's own. -/
theorem wpList_appT {P : Program} (w : World) {ops : Array Oper} {rest : List Oper} {o : Oper} {a : Act} {Q : Exit → Act → World → Prop} (hgd : o.guard = none) (s x : Operand) (t : TypeId)
    (ho : o.op = .call { callee := .builtin .append, args := #[s, x], argTypes := #[t, t] })
    (base : Nat) (e : TypeId) (i : TypeInfo) (z : Value) (ht : P.underlying t = some (.slice e)) (hi : P.info? e = some i) (hz : i.zero = some z) (hzs : z.cells.size = 5) (hsize : i.size = 5) (hby : i.bytes = 48)
    (v : Value) (n : Nat) (ts : List Tk) (hs : a.eval s = v) (hown : w.ownsRow base e 5 v n (tkv ts))
    (g c : Nat) (k : Tk) (hx : a.eval x = .slice (some ⟨g, 0, none⟩) 1 c) (hb : Blk w g e (tkc k).toArray) (hbytes : n + 1 ≤ 1000000) (hbase : base ≤ w.heap.size)
    (h : ∀ A' c' w', w'.ownsRow base e 5 (.slice A' (n + 1) c') (n + 1) (tkv (ts ++ [k])) → w.grownBy w' v.ownBlock → wpList P ops Q rest (a.put o.dst (.slice A' (n + 1) c')) w') : wpList P ops Q (o :: rest) a w := by
  refine wpList_plain hgd fun _ hK => ?_
  obtain ⟨v', w', hrun, k2, k3, _⟩ := run_append_own (P := P) w base t o.type e i z 5 48 ht hi hz hsize hby hzs (by omega) v n (tkv ts) hown ⟨g, 0, none⟩ 1 c (tkc k) rfl
    (fun j u hj => by
      rw [Addr.add_lit, Nat.zero_add, hb.cell, List.getElem?_toArray]
      exact hj)
    (fun u hu => by
      simp [tkc] at hu
      rcases hu with rfl | rfl | rfl | rfl | rfl <;> rfl) (by unfold maxLen; omega) (by omega) hbase
  obtain ⟨A', c', rfl⟩ := own_slice k2
  unfold Oper.wp execOp
  simp only [ho, resolve, invoke, builtin, Sem.run_bind, Sem.run_pure, Result.andThen_ok, List.map_toArray, List.map_cons, List.map_nil, hs, hx, hrun]
  have e2 : tkv ts ++ tkc k = tkv (ts ++ [k]) := by rw [tkv_append]; simp [tkv]
  exact hK _ _ (h A' c' w' (by rw [← e2]; exact k2) k3)

end Go.Proofs.YtgeglhgkibcpfaaDoor
