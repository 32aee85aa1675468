/- Slices of strings: appends of a whole slice, of one element beside another row that is read. No function of the program is named here. -/
import Derived.Test.YtpfkkmjodhpkoaaDoorStrs
import Derived.Test.YtpfkkmjodhpkoaaDoorIntS
namespace Go.Proofs.YtpfkkmjodhpkoaaDoor
open Go.RowKit

theorem RdS.alloc {w : World} {B : Nat} {A : Option Addr} {n : Nat} {ls : List (List UInt8)} (h : RdS w B A n ls) (hB : B ≤ w.heap.size) (o : Obj) : RdS (w.alloc o) B A n ls :=
  h.below ((Below.refl _ _).alloc hB o)

theorem RdS.grown {w w' : World} {B : Nat} {A : Option Addr} {n : Nat} {ls : List (List UInt8)} {row : Option Nat} (h : RdS w B A n ls) (hg : w.grownBy w' row) (hB : B ≤ w.heap.size) (hs : 0 < n → ∀ ad, A = some ad → row ≠ some ad.block) : RdS w' B A n ls :=
  ⟨h.1, fun hn => by
    obtain ⟨ad, e, hb, hc⟩ := h.2 hn
    refine ⟨ad, e, hb, fun j hj => ?_⟩
    rw [← hc j hj]
    exact World.cell?_of_block (by rw [blk_add]; exact hg.block _ (by omega) (fun e2 => hs hn ad e e2.symm))⟩

/-- A row of texts of the call's own, and another that is read, apart. -/
structure TwoS (w wr : World) (t : TypeId) (A : Option Addr) (n c : Nat) (xs : List Value) (A1 : Option Addr) (m : Nat) (ys : List (List UInt8)) : Prop where
  own : wr.ownsRow w.heap.size t 1 (.slice A n c) n xs
  bel : Below w.heap.size w wr
  rd : RdS wr wr.heap.size A1 m ys
  off : 0 < m → ∀ ad, A1 = some ad → (Value.slice A n c).ownBlock ≠ some ad.block

/-- a call between -/
theorem TwoS.call {w wr w' : World} {t : TypeId} {A : Option Addr} {n c : Nat} {xs : List Value} {A1 : Option Addr} {m : Nat} {ys : List (List UInt8)}
    (h : TwoS w wr t A n c xs A1 m ys) (hb : Below wr.heap.size wr w') : TwoS w w' t A n c xs A1 m ys :=
  ⟨own_below h.own hb, h.bel.trans (hb.mono h.bel.size), (h.rd.below hb).more hb.size, h.off⟩

/-- an append onto the first, of what lies in a new block -/
theorem TwoS.push {w wr w' : World} {t : TypeId} {A A' : Option Addr} {n c n' c' : Nat} {xs xs' : List Value} {A1 : Option Addr} {m : Nat} {ys : List (List UInt8)} {o : Obj}
    (h : TwoS w wr t A n c xs A1 m ys) (ho : w'.ownsRow w.heap.size t 1 (.slice A' n' c') n' xs') (hg : (wr.alloc o).grownBy w' (Value.slice A n c).ownBlock)
    (hw : (Value.slice A' n' c').ownBlock = (Value.slice A n c).ownBlock ∨ (Value.slice A' n' c').ownBlock = some (wr.alloc o).heap.size) : TwoS w w' t A' n' c' xs' A1 m ys := by
  have hz : (wr.alloc o).heap.size = wr.heap.size + 1 := by simp
  refine ⟨ho, app_below h.own h.bel hg, ?_, ?_⟩
  · exact ((h.rd.alloc (Nat.le_refl _) o).grown hg (by omega) (fun hm ad hA e => h.off hm ad hA e)).more (by have := hg.size; omega)
  · intro hm ad hA e
    rcases hw with hw | hw
    · exact h.off hm ad hA (hw.symm.trans e)
    · rw [hw] at e
      injection e with e
      obtain ⟨ad', hA', hb', _⟩ := h.rd.2 hm
      rw [hA] at hA'
      injection hA' with hA'
      subst hA'
      omega

/-- a new row that is read, handed back by a call -/
theorem TwoS.next {w wr w' : World} {t t2 : TypeId} {A : Option Addr} {n c : Nat} {xs : List Value} {A1 A2 : Option Addr} {m m2 c2 : Nat} {ys zs : List (List UInt8)}
    (h : TwoS w wr t A n c xs A1 m ys) (ho : w'.ownsRow wr.heap.size t2 1 (.slice A2 m2 c2) m2 (sc zs)) (hb : Below wr.heap.size wr w') : TwoS w w' t A n c xs A2 m2 zs :=
  ⟨own_below h.own hb, h.bel.trans (hb.mono h.bel.size), RdS.of_own ho, fun _ ad hA e => by
    have h2 := own_ge ho ad hA
    have h3 := (h.own.lt _ e).2
    omega⟩

/-- APPEND of a slice that reads as texts onto a row of the call's own. -/
theorem wpList_appS {P : Program} (w : World) {ops : Array Oper} {rest : List Oper} {o : Oper} {a : Act} {Q : Exit → Act → World → Prop} (hgd : o.guard = none) (s x : Operand) (t : TypeId)
    (ho : o.op = .call { callee := .builtin .append, args := #[s, x], argTypes := #[t, t] })
    (base : Nat) (e : TypeId) (i : TypeInfo) (ht : P.underlying t = some (.slice e)) (hi : P.info? e = some i) (hz : i.zero = some (.string ⟨#[]⟩)) (hsize : i.size = 1) (hby : i.bytes = 16)
    (v : Value) (n : Nat) (xs : List (List UInt8)) (hs : a.eval s = v) (hown : w.ownsRow base e 1 v n (sc xs))
    (B : Nat) (A : Option Addr) (m c : Nat) (ys : List (List UInt8)) (hx : a.eval x = .slice A m c) (hr : RdS w B A m ys) (hbytes : n + m ≤ 1000000) (hbase : base ≤ w.heap.size)
    (h : ∀ A' c' w', w'.ownsRow base e 1 (.slice A' (n + m) c') (n + m) (sc (xs ++ ys)) → w.grownBy w' v.ownBlock → wpList P ops Q rest (a.put o.dst (.slice A' (n + m) c')) w') : wpList P ops Q (o :: rest) a w := by
  have run : ∃ A' c' w', (Builtin.append_ #[t, t] o.type #[v, .slice A m c]).run P w = .ok (.slice A' (n + m) c') w' ∧ w'.ownsRow base e 1 (.slice A' (n + m) c') (n + m) (sc (xs ++ ys)) ∧ w.grownBy w' v.ownBlock := by
    cases A with
    | none =>
      have hm : m = 0 := by
        rcases Nat.eq_zero_or_pos m with h0 | h0
        · exact h0
        · obtain ⟨ad, h, _⟩ := hr.2 h0
          cases h
      subst hm
      have hn : ys = [] := List.eq_nil_of_length_eq_zero hr.1
      subst hn
      obtain ⟨A', c', rfl⟩ := own_slice hown
      refine ⟨A', c', w, ?_, by simpa using hown, World.grownBy.refl w _⟩
      rcases hown.2 with ⟨hv, h0⟩ | ⟨g, cap, cur, hv, _, _, hnc, _⟩
      · injection hv with h1 h2 h3
        subst h1 h3 h0
        simp [Builtin.append_, run_underlying ht, sizeOf, typeInfo, hi, Builtin.lenOf, Builtin.firstCells]
      · injection hv with h1 h2 h3
        subst h1 h3
        simp [Builtin.append_, run_underlying ht, sizeOf, typeInfo, hi, Builtin.lenOf, Builtin.firstCells, hnc, storeCells]
    | some ad =>
      obtain ⟨v', w', hrun, h2, h3, _⟩ := run_append_own (P := P) w base t o.type e i (.string ⟨#[]⟩) 1 16 ht hi hz hsize hby rfl (by omega) v n (sc xs) hown ad m c (sc ys)
        (by rw [sc_length, hr.1]; omega) (fun j u hu => by
          have hj : j < ys.length := by
            have := (List.getElem?_eq_some_iff.1 hu).1
            rw [sc_length] at this
            exact this
          obtain ⟨ad', e', _, hc⟩ := hr.2 (by have := hr.1; omega)
          obtain rfl : ad = ad' := by injection e'
          rw [hc j hj, ← sc_at hj, hu]) (fun u hu => by
          unfold sc at hu
          obtain ⟨z, _, rfl⟩ := List.mem_map.1 hu
          rfl) (by unfold maxLen; omega) (by omega) hbase
      obtain ⟨A', c', rfl⟩ := own_slice h2
      have e2 : sc xs ++ sc ys = sc (xs ++ ys) := by simp [sc]
      exact ⟨A', c', w', hrun, by rw [← e2]; exact h2, h3⟩
  refine wpList_plain hgd fun _ hK => ?_
  obtain ⟨A', c', w', hrun, h2, h3⟩ := run
  unfold Oper.wp execOp
  simp only [ho, resolve, invoke, builtin, Sem.run_bind, Sem.run_pure, Result.andThen_ok, List.map_toArray, List.map_cons, List.map_nil, hs, hx, hrun]
  exact hK _ _ (h A' c' w' h2 h3)

end Go.Proofs.YtpfkkmjodhpkoaaDoor
