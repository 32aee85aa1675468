/- Four rows of bytes that the call owns, apart from one another. No function of the program is named here. -/
import Derived.Test.YtpfkkmjodhpkoaaDoorBlk
namespace Go.Proofs.YtpfkkmjodhpkoaaDoor
open Go.RowKit

/-- APPEND ONTO A ROW OF THE CALL's OWN, of a source that reads as bytes: nil, empty or not. -/
theorem run_appL {P : Program} (w : World) (base : Nat) (t ty e : TypeId) (i : TypeInfo) (ht : P.underlying t = some (.slice e)) (hi : P.info? e = some i) (hz : i.zero = some (.int .u8 0))
    (hsize : i.size = 1) (hby : i.bytes = 1) (v : Value) (n : Nat) (xs : List UInt8) (hown : w.ownsRow base e 1 v n (bc xs))
    (B : Nat) (A : Option Addr) (m c : Nat) (l : List UInt8) (hr : Rd w B A m l) (hbytes : n + m ≤ 140737488355328) (hbase : base ≤ w.heap.size) :
    ∃ v' w', (Builtin.append_ #[t, t] ty #[v, .slice A m c]).run P w = .ok v' w' ∧ w'.ownsRow base e 1 v' (n + m) (bc (xs ++ l)) ∧ w.grownBy w' v.ownBlock ∧ (v'.ownBlock = v.ownBlock ∨ v'.ownBlock = some w.heap.size) := by
  cases A with
  | none =>
    have hm : m = 0 := by
      rcases Nat.eq_zero_or_pos m with h0 | h0
      · exact h0
      · obtain ⟨ad, h, _⟩ := hr.2 h0
        cases h
    subst hm
    have hn : l = [] := List.eq_nil_of_length_eq_zero hr.1
    subst hn
    refine ⟨v, w, ?_, by simpa using hown, World.grownBy.refl w _, .inl rfl⟩
    rcases hown.2 with ⟨rfl, rfl⟩ | ⟨g, cap, cur, rfl, _, _, hnc, _⟩
    · simp [Builtin.append_, run_underlying ht, sizeOf, typeInfo, hi, Builtin.lenOf, Builtin.firstCells]
    · simp [Builtin.append_, run_underlying ht, sizeOf, typeInfo, hi, Builtin.lenOf, Builtin.firstCells, hnc, storeCells]
  | some ad =>
    obtain ⟨v', w', hrun, h2, h3, _, h5⟩ := run_append_own_at (P := P) w base t ty e i (.int .u8 0) 1 1 ht hi hz hsize hby rfl (by omega) v n (bc xs) hown ad m c (bc l)
      (by rw [bc_length, hr.1]; omega) hr.cells (bc_one l) (by unfold maxLen; omega) (by omega) hbase
    exact ⟨v', w', hrun, by rw [bc_append]; exact h2, h3, h5⟩

theorem wpList_appL {P : Program} (w : World) {ops : Array Oper} {rest : List Oper} {o : Oper} {a : Act} {Q : Exit → Act → World → Prop} (hgd : o.guard = none) (s x : Operand) (t : TypeId)
    (ho : o.op = .call { callee := .builtin .append, args := #[s, x], argTypes := #[t, t] })
    (base : Nat) (e : TypeId) (i : TypeInfo) (ht : P.underlying t = some (.slice e)) (hi : P.info? e = some i) (hz : i.zero = some (.int .u8 0))
    (hsize : i.size = 1) (hby : i.bytes = 1)
    (v : Value) (n : Nat) (xs : List UInt8) (hs : a.eval s = v) (hown : w.ownsRow base e 1 v n (bc xs))
    (B : Nat) (A : Option Addr) (m c : Nat) (l : List UInt8) (hx : a.eval x = .slice A m c) (hr : Rd w B A m l)
    (hbytes : n + m ≤ 140737488355328) (hbase : base ≤ w.heap.size)
    (h : ∀ A' c' w', w'.ownsRow base e 1 (.slice A' (n + m) c') (n + m) (bc (xs ++ l)) → w.grownBy w' v.ownBlock → ((Value.slice A' (n + m) c').ownBlock = v.ownBlock ∨ (Value.slice A' (n + m) c').ownBlock = some w.heap.size) → wpList P ops Q rest (a.put o.dst (.slice A' (n + m) c')) w') : wpList P ops Q (o :: rest) a w := by
  refine wpList_plain hgd fun _ hK => ?_
  obtain ⟨v', w', hrun, h2, h3, h4⟩ := run_appL (P := P) w base t o.type e i ht hi hz hsize hby v n xs hown B A m c l hr hbytes hbase
  obtain ⟨A', c', rfl⟩ := own_slice h2
  unfold Oper.wp execOp
  simp only [ho, resolve, invoke, builtin, Sem.run_bind, Sem.run_pure, Result.andThen_ok, List.map_toArray, List.map_cons, List.map_nil, hs, hx, hrun]
  exact hK _ _ (h A' c' w' h2 h3 h4)

/-- a row of one element type lies in no block of another -/
theorem own_blk_ne {w : World} {base : Nat} {e t : TypeId} {size n : Nat} {v : Value} {xs : List Value} {g : Nat} {cs : Array Value} (h : w.ownsRow base e size v n xs) (hg : Blk w g t cs) (hne : e ≠ t) : some g ≠ v.ownBlock := by
  rcases h.2 with ⟨rfl, _⟩ | ⟨g', cap, cur, rfl, _, hh, _⟩
  · simp [Value.ownBlock]
  · intro he
    have e1 : g = g' := by simpa [Value.ownBlock] using he
    subst e1
    unfold Blk at hg
    rw [hh] at hg
    injection hg with hg
    injection hg with _ ht
    exact hne ht

/-- two values that own no block in common -/
def Sep (u v : Value) : Prop := ∀ g, u.ownBlock = some g → v.ownBlock ≠ some g

theorem Sep.symm {u v : Value} (h : Sep u v) : Sep v u := fun g hv hu => h g hu hv

/-- rows of bytes that the call owns, no two of them in one block -/
def OwnL (w : World) (base : Nat) (e : TypeId) (vs : List (Value × Nat × List UInt8)) : Prop :=
  (∀ p ∈ vs, w.ownsRow base e 1 p.1 p.2.1 (bc p.2.2)) ∧ vs.Pairwise (fun p q => Sep p.1 q.1)

section
variable {w w' : World} {base : Nat} {e : TypeId} {vs : List (Value × Nat × List UInt8)} {p : Value × Nat × List UInt8}
theorem OwnL.head (h : OwnL w base e (p :: vs)) : w.ownsRow base e 1 p.1 p.2.1 (bc p.2.2) := h.1 p (by simp)

theorem OwnL.alloc (h : OwnL w base e vs) (o : Obj) : OwnL (w.alloc o) base e vs := ⟨fun p hp => (h.1 p hp).alloc o, h.2⟩

theorem OwnL.drew (h : OwnL w base e vs) : OwnL w.drew base e vs := ⟨fun p hp => (h.1 p hp).drew, h.2⟩

theorem OwnL.keep (h : OwnL w base e vs) (hb : Below w.heap.size w w') : OwnL w' base e vs :=
  ⟨fun p hp => (h.1 p hp).kept (row := some w.heap.size) ⟨hb.os, hb.tape, hb.output, hb.size, fun k hk _ => hb.block k hk⟩ (by
    by_cases hn : p.1.ownBlock = some w.heap.size
    · exact absurd ((h.1 p hp).lt _ hn).2 (by omega)
    · exact .inr hn), h.2⟩

/-- the first row is appended to, and goes last -/
theorem OwnL.push (h : OwnL w base e (p :: vs)) {v' : Value} {n' : Nat} {l' : List UInt8} (hg : w.grownBy w' p.1.ownBlock) (ho : w'.ownsRow base e 1 v' n' (bc l'))
    (hl : v'.ownBlock = p.1.ownBlock ∨ v'.ownBlock = some w.heap.size) : OwnL w' base e (vs ++ [(v', n', l')]) := by
  obtain ⟨h1, h2⟩ := h
  rw [List.pairwise_cons] at h2
  refine ⟨fun q hq => ?_, ?_⟩
  · rcases List.mem_append.1 hq with hq | hq
    · refine (h1 q (by simp [hq])).kept hg ?_
      cases hv : q.1.ownBlock with
      | none => exact .inl rfl
      | some g => exact .inr (fun e => h2.1 q hq g e.symm hv)
    · rw [List.mem_singleton] at hq
      subst hq
      exact ho
  · rw [List.pairwise_append]
    refine ⟨h2.2, List.pairwise_singleton _ _, fun q hq x hx => ?_⟩
    rw [List.mem_singleton] at hx
    subst hx
    intro g hqg hvg
    rcases hl with e | e
    · exact h2.1 q hq g (by rw [← e]; exact hvg) hqg
    · rw [e] at hvg
      injection hvg with hvg
      have := ((h1 q (by simp [hq])).lt g hqg).2
      omega

theorem OwnL.nil4 (w : World) (base : Nat) (e : TypeId) : OwnL w base e [(.slice none 0 0, 0, []), (.slice none 0 0, 0, []), (.slice none 0 0, 0, []), (.slice none 0 0, 0, [])] := by
  refine ⟨fun p hp => ?_, ?_⟩
  · simp only [List.mem_cons, List.not_mem_nil, or_false, or_self] at hp
    subst hp
    exact ⟨by simp [bc], .inl ⟨rfl, rfl⟩⟩
  · have hs : Sep (.slice none 0 0) (.slice none 0 0) := fun g h => by simp [Value.ownBlock] at h
    simp [hs]
end

end Go.Proofs.YtpfkkmjodhpkoaaDoor
