/- Slices of pieces (a text and a number each): rows that are read, rows of the call's own. No function of the program is named here. -/
import Derived.Test.YtpfkkmjodhpkoaaDoorIntS
import Derived.Test.YtpfkkmjodhpkoaaDoorStrs
namespace Go.Proofs.YtpfkkmjodhpkoaaDoor
open Go.RowKit

abbrev Pc := List UInt8 × Int

/-- pieces as cells -/
def pcv (ps : List Pc) : List Value := ps.flatMap fun p => [.string (bs p.1), .int .i64 p.2]

theorem pcv_cons (p : Pc) (ps : List Pc) : pcv (p :: ps) = .string (bs p.1) :: .int .i64 p.2 :: pcv ps := rfl
theorem pcv_append (a b : List Pc) : pcv (a ++ b) = pcv a ++ pcv b := by unfold pcv; rw [List.flatMap_append]
theorem pcv_len (ps : List Pc) : (pcv ps).length = ps.length * 2 := by
  induction ps with
  | nil => rfl
  | cons p ps ih => rw [pcv_cons, List.length_cons, List.length_cons, ih, List.length_cons]; omega
theorem pcv_at : ∀ (ps : List Pc) (j : Nat), j < ps.length → (pcv ps)[j * 2]? = some (.string (bs (ps[j]?.getD ([], 0)).1)) ∧ (pcv ps)[j * 2 + 1]? = some (.int .i64 (ps[j]?.getD ([], 0)).2) := by
  intro ps
  induction ps with
  | nil => intro j h; simp at h
  | cons p ps ih =>
    intro j h
    cases j with
    | zero => exact ⟨rfl, rfl⟩
    | succ j =>
      rw [List.length_cons] at h
      obtain ⟨h1, h2⟩ := ih j (by omega)
      rw [pcv_cons, show (j + 1) * 2 = j * 2 + 1 + 1 from by omega]
      exact ⟨h1, h2⟩

/-- A slice (its address A, its length n) reads as the pieces ps; it lies below block B. -/
def RdP (w : World) (B : Nat) (A : Option Addr) (n : Nat) (ps : List Pc) : Prop :=
  ps.length = n ∧ (0 < n → ∃ ad : Addr, A = some ad ∧ ad.block < B ∧ ∀ j, j < ps.length → w.cell? (ad.add (j * 2)) = some (.string (bs (ps[j]?.getD ([], 0)).1)) ∧ w.cell? ⟨(ad.add (j * 2)).block, (ad.add (j * 2)).off + 1, none⟩ = some (.int .i64 (ps[j]?.getD ([], 0)).2))

theorem RdP.keep {w w' : World} {B : Nat} {A : Option Addr} {n : Nat} {ps : List Pc} (h : RdP w B A n ps) (hk : ∀ p : Addr, p.block < B → w'.cell? p = w.cell? p) : RdP w' B A n ps :=
  ⟨h.1, fun hn => by
    obtain ⟨ad, e, hb, hc⟩ := h.2 hn
    exact ⟨ad, e, hb, fun j hj => ⟨(hk _ (by rw [blk_add]; exact hb)).trans (hc j hj).1, (hk ⟨(ad.add (j * 2)).block, _, none⟩ (by show (ad.add (j * 2)).block < B; rw [blk_add]; exact hb)).trans (hc j hj).2⟩⟩⟩

theorem RdP.below {w w' : World} {B : Nat} {A : Option Addr} {n : Nat} {ps : List Pc} (h : RdP w B A n ps) (hb : Below B w w') : RdP w' B A n ps := h.keep fun _ hp => hb.cell hp

theorem RdP.more {w : World} {B B' : Nat} {A : Option Addr} {n : Nat} {ps : List Pc} (h : RdP w B A n ps) (hB : B ≤ B') : RdP w B' A n ps :=
  ⟨h.1, fun hn => by
    obtain ⟨ad, e, hb, hc⟩ := h.2 hn
    exact ⟨ad, e, by omega, hc⟩⟩

theorem ownP_len {w : World} {base : Nat} {e : TypeId} {v : Value} {n : Nat} {ps : List Pc} (h : w.ownsRow base e 2 v n (pcv ps)) : ps.length = n := by
  have := h.1
  rw [pcv_len] at this
  omega

theorem ownP_nil (w : World) (base : Nat) (e : TypeId) : w.ownsRow base e 2 (.slice none 0 0) 0 (pcv []) := ⟨rfl, .inl ⟨rfl, rfl⟩⟩

theorem RdP.of_own {w : World} {base : Nat} {e : TypeId} {A : Option Addr} {n c : Nat} {ps : List Pc} (h : w.ownsRow base e 2 (.slice A n c) n (pcv ps)) : RdP w w.heap.size A n ps := by
  have hl := ownP_len h
  refine ⟨hl, fun hn => ?_⟩
  obtain ⟨g, cap, hv, _, hlt⟩ := h.form hn
  have hA : A = some ⟨g, 0, none⟩ := by injection hv
  subst hA
  refine ⟨_, rfl, hlt, fun j hj => ⟨?_, ?_⟩⟩
  · exact h.cells (g := g) rfl (j * 2) _ (pcv_at ps j hj).1
  · have h2 := h.cells (g := g) rfl (j * 2 + 1) _ (pcv_at ps j hj).2
    rw [Addr.add_lit, Nat.zero_add] at h2
    rw [Addr.add_lit, Nat.zero_add]
    exact h2

/-- What a function leaves that hands back pieces in a row of its own. -/
def OutP (base : Nat) (t : TypeId) (w : World) (ps : List Pc) (e : Ending) (w' : World) : Prop :=
  ∃ A n c, e = .returned (.slice A n c) ∧ w'.ownsRow base t 2 (.slice A n c) n (pcv ps) ∧ Below base w w'

/-- a store into a cell of a row of the call's own -/
theorem own_store {w : World} {base : Nat} {e : TypeId} {size g n c : Nat} {xs : List Value} (h : w.ownsRow base e size (.slice (some ⟨g, 0, none⟩) n c) n xs) (j : Nat) (u : Value) :
    (w.setCell ⟨g, j, none⟩ u).ownsRow base e size (.slice (some ⟨g, 0, none⟩) n c) n (xs.set j u) := by
  obtain ⟨h1, h2⟩ := h
  refine ⟨by rw [List.length_set]; exact h1, ?_⟩
  rcases h2 with ⟨h2, _⟩ | ⟨g', cap, cur, hv, hg, hh, hn, hc, hs, ht⟩
  · cases h2
  · injection hv with e1 e2 e3
    injection e1 with e1
    injection e1 with e1
    subst e1
    refine .inr ⟨g, cap, cur.setIfInBounds j u, by rw [e3], hg, heap_setCell_same w g j cur e u hh, hn, hc, by simpa using hs, ?_⟩
    rw [← ht, Array.toList_setIfInBounds, List.take_set]

theorem own_frozen {w : World} {base : Nat} {e : TypeId} {size g n c : Nat} {xs : List Value} (h : w.ownsRow base e size (.slice (some ⟨g, 0, none⟩) n c) n xs) (j : Nat) : w.frozen? ⟨g, j, none⟩ = false := by
  rcases h.2 with ⟨h2, _⟩ | ⟨g', cap, cur, hv, hg, hh, _⟩
  · cases h2
  · injection hv with e1 e2 e3
    injection e1 with e1
    injection e1 with e1
    subst e1
    exact frozen_of_row w g j cur e hh

/-- APPEND of one piece, which lies in a new block, onto a row of the call's own. -/
theorem wpList_appP {P : Program} (w : World) {ops : Array Oper} {rest : List Oper} {o : Oper} {a : Act} {Q : Exit → Act → World → Prop} (hgd : o.guard = none) (s x : Operand) (t : TypeId)
    (ho : o.op = .call { callee := .builtin .append, args := #[s, x], argTypes := #[t, t] })
    (base : Nat) (e : TypeId) (i : TypeInfo) (ht : P.underlying t = some (.slice e)) (hi : P.info? e = some i) (hz : i.zero = some (.agg #[.string ⟨#[]⟩, .int .i64 0])) (hsize : i.size = 2) (hby : i.bytes = 24)
    (v : Value) (n : Nat) (ps : List Pc) (hs : a.eval s = v) (hown : w.ownsRow base e 2 v n (pcv ps))
    (ad : Addr) (c : Nat) (p : Pc) (hx : a.eval x = .slice (some ad) 1 c) (h1 : w.cell? ad = some (.string (bs p.1))) (h2 : w.cell? (ad.add 1) = some (.int .i64 p.2)) (hbytes : n + 1 ≤ 1000000) (hbase : base ≤ w.heap.size)
    (h : ∀ A' c' w', w'.ownsRow base e 2 (.slice A' (n + 1) c') (n + 1) (pcv (ps ++ [p])) → w.grownBy w' v.ownBlock → wpList P ops Q rest (a.put o.dst (.slice A' (n + 1) c')) w') : wpList P ops Q (o :: rest) a w := by
  refine wpList_plain hgd fun _ hK => ?_
  obtain ⟨v', w', hrun, k2, k3, _⟩ := run_append_own (P := P) w base t o.type e i (.agg #[.string ⟨#[]⟩, .int .i64 0]) 2 24 ht hi hz hsize hby rfl (by omega) v n (pcv ps) hown ad 1 c [.string (bs p.1), .int .i64 p.2] rfl
    (fun j u hj => by
      match j, hj with
      | 0, hj => simp at hj; subst hj; simpa [Addr.add] using h1
      | 1, hj => simp at hj; subst hj; exact h2)
    (fun u hu => by
      simp at hu
      rcases hu with rfl | rfl <;> rfl) (by unfold maxLen; omega) (by omega) hbase
  obtain ⟨A', c', rfl⟩ := own_slice k2
  unfold Oper.wp execOp
  simp only [ho, resolve, invoke, builtin, Sem.run_bind, Sem.run_pure, Result.andThen_ok, List.map_toArray, List.map_cons, List.map_nil, hs, hx, hrun]
  have e2 : pcv ps ++ [.string (bs p.1), .int .i64 p.2] = pcv (ps ++ [p]) := by rw [pcv_append]; rfl
  exact hK _ _ (h A' c' w' (by rw [← e2]; exact k2) k3)

/-- The same, and where the row lies behind it. -/
theorem wpList_appPL {P : Program} (w : World) {ops : Array Oper} {rest : List Oper} {o : Oper} {a : Act} {Q : Exit → Act → World → Prop} (hgd : o.guard = none) (s x : Operand) (t : TypeId)
    (ho : o.op = .call { callee := .builtin .append, args := #[s, x], argTypes := #[t, t] })
    (base : Nat) (e : TypeId) (i : TypeInfo) (ht : P.underlying t = some (.slice e)) (hi : P.info? e = some i) (hz : i.zero = some (.agg #[.string ⟨#[]⟩, .int .i64 0])) (hsize : i.size = 2) (hby : i.bytes = 24)
    (v : Value) (n : Nat) (ps : List Pc) (hs : a.eval s = v) (hown : w.ownsRow base e 2 v n (pcv ps))
    (ad : Addr) (c : Nat) (p : Pc) (hx : a.eval x = .slice (some ad) 1 c) (h1 : w.cell? ad = some (.string (bs p.1))) (h2 : w.cell? (ad.add 1) = some (.int .i64 p.2)) (hbytes : n + 1 ≤ 1000000) (hbase : base ≤ w.heap.size)
    (h : ∀ A' c' w', w'.ownsRow base e 2 (.slice A' (n + 1) c') (n + 1) (pcv (ps ++ [p])) → w.grownBy w' v.ownBlock → ((Value.slice A' (n + 1) c').ownBlock = v.ownBlock ∨ (Value.slice A' (n + 1) c').ownBlock = some w.heap.size) → wpList P ops Q rest (a.put o.dst (.slice A' (n + 1) c')) w') : wpList P ops Q (o :: rest) a w := by
  refine wpList_plain hgd fun _ hK => ?_
  obtain ⟨v', w', hrun, k2, k3, _, k5⟩ := run_append_own_at (P := P) w base t o.type e i (.agg #[.string ⟨#[]⟩, .int .i64 0]) 2 24 ht hi hz hsize hby rfl (by omega) v n (pcv ps) hown ad 1 c [.string (bs p.1), .int .i64 p.2] rfl
    (fun j u hj => by
      match j, hj with
      | 0, hj => simp at hj; subst hj; simpa [Addr.add] using h1
      | 1, hj => simp at hj; subst hj; exact h2)
    (fun u hu => by
      simp at hu
      rcases hu with rfl | rfl <;> rfl) (by unfold maxLen; omega) (by omega) hbase
  obtain ⟨A', c', rfl⟩ := own_slice k2
  unfold Oper.wp execOp
  simp only [ho, resolve, invoke, builtin, Sem.run_bind, Sem.run_pure, Result.andThen_ok, List.map_toArray, List.map_cons, List.map_nil, hs, hx, hrun]
  have e2 : pcv ps ++ [.string (bs p.1), .int .i64 p.2] = pcv (ps ++ [p]) := by rw [pcv_append]; rfl
  exact hK _ _ (h A' c' w' (by rw [← e2]; exact k2) k3 k5)

/-- the last piece's text, written anew -/
theorem pcv_set (o : List Pc) (t t' : List UInt8) (y : Int) : (pcv (o ++ [(t, y)])).set (o.length * 2) (.string (bs t')) = pcv (o ++ [(t', y)]) := by
  rw [pcv_append, pcv_append, List.set_append_right _ _ (by rw [pcv_len]; omega), pcv_len, Nat.sub_self]
  rfl

theorem own_some {w : World} {base : Nat} {e : TypeId} {size : Nat} {A : Option Addr} {n c : Nat} {xs : List Value} (h : w.ownsRow base e size (.slice A n c) n xs) (hn : 0 < n) : ∃ g, A = some ⟨g, 0, none⟩ ∧ base ≤ g ∧ g < w.heap.size := by
  obtain ⟨g, cap, hv, hb, hlt⟩ := h.form hn
  injection hv with hv
  exact ⟨g, hv, hb, hlt⟩

theorem last_cells {w : World} {base : Nat} {e : TypeId} {g n c : Nat} {o : List Pc} {p : Pc} (h : w.ownsRow base e 2 (.slice (some ⟨g, 0, none⟩) n c) n (pcv (o ++ [p]))) :
    w.cell? ⟨g, o.length * 2, none⟩ = some (.string (bs p.1)) ∧ w.cell? ⟨g, o.length * 2 + 1, none⟩ = some (.int .i64 p.2) := by
  obtain ⟨h1, h2⟩ := pcv_at (o ++ [p]) o.length (by simp)
  have e1 : ((o ++ [p])[o.length]?.getD ([], 0)) = p := by simp
  rw [e1] at h1 h2
  have k1 := h.cells (g := g) rfl _ _ h1
  have k2 := h.cells (g := g) rfl _ _ h2
  rw [Addr.add_lit, Nat.zero_add] at k1 k2
  exact ⟨k1, k2⟩

end Go.Proofs.YtpfkkmjodhpkoaaDoor
