/- Slices of ints: rows of the call's own, appends, what a function leaves that hands one back. No function of the program is named here. -/
import Derived.Test.YtgeglhgkibcpfaaDoorBlk
import Derived.Test.YtgeglhgkibcpfaaDoorStrs
namespace Go.Proofs.YtgeglhgkibcpfaaDoor
open Go.RowKit

/-- ints as cells -/
def iv (zs : List Int) : List Value := zs.map (Value.int .i64)

theorem iv_length (zs : List Int) : (iv zs).length = zs.length := by simp [iv]
theorem iv_snoc (zs : List Int) (z : Int) : iv (zs ++ [z]) = iv zs ++ [.int .i64 z] := by simp [iv]
theorem iv_append (zs ys : List Int) : iv (zs ++ ys) = iv zs ++ iv ys := by simp [iv]
theorem iv_at {zs : List Int} {j : Nat} (h : j < zs.length) : (iv zs)[j]? = some (.int .i64 (zs.getD j 0)) := by simp [iv, List.getD, h]

/-- each fits an int -/
def FitI (zs : List Int) : Prop := ∀ j, -9223372036854775808 ≤ zs.getD j 0 ∧ zs.getD j 0 ≤ 9223372036854775807

theorem FitI.of_mem {zs : List Int} (h : ∀ z ∈ zs, -9223372036854775808 ≤ z ∧ z ≤ 9223372036854775807) : FitI zs := by
  intro j
  by_cases hj : j < zs.length
  · have e : zs.getD j 0 = zs[j] := by simp [List.getD, hj]
    rw [e]
    exact h _ (List.getElem_mem hj)
  · have e : zs.getD j 0 = 0 := by rw [List.getD, List.getElem?_eq_none (by omega)]; rfl
    rw [e]
    omega

theorem FitI.nil : FitI [] := fun j => by simp

theorem ownI_len {w : World} {base : Nat} {e : TypeId} {v : Value} {n : Nat} {zs : List Int} (h : w.ownsRow base e 1 v n (iv zs)) : zs.length = n := by
  have := h.1
  rw [iv_length] at this
  omega

theorem ownI_nil (w : World) (base : Nat) (e : TypeId) : w.ownsRow base e 1 (.slice none 0 0) 0 (iv []) := ⟨by simp [iv], .inl ⟨rfl, rfl⟩⟩

theorem RdI.none_ (w : World) (B : Nat) : RdI w B none 0 [] := ⟨rfl, fun h => absurd h (by omega), fun j => by simp⟩

theorem RdI.more {w : World} {B B' : Nat} {A : Option Addr} {n : Nat} {zs : List Int} (h : RdI w B A n zs) (hB : B ≤ B') : RdI w B' A n zs :=
  ⟨h.1, fun hn => by
    obtain ⟨ad, e, hb, hc⟩ := h.2.1 hn
    exact ⟨ad, e, by omega, hc⟩, h.2.2⟩

theorem RdI.alloc {w : World} {B : Nat} {A : Option Addr} {n : Nat} {zs : List Int} (h : RdI w B A n zs) (hB : B ≤ w.heap.size) (o : Obj) : RdI (w.alloc o) B A n zs :=
  h.below ((Below.refl _ _).alloc hB o)

theorem RdI.of_iv {w : World} {base : Nat} {e : TypeId} {A : Option Addr} {n c : Nat} {zs : List Int} (h : w.ownsRow base e 1 (.slice A n c) n (iv zs)) (hz : FitI zs) : RdI w w.heap.size A n zs := by
  have hl := ownI_len h
  refine ⟨hl, fun hn => ?_, hz⟩
  obtain ⟨g, cap, hv, _, hlt⟩ := h.form hn
  have hA : A = some ⟨g, 0, Option.none⟩ := by injection hv
  subst hA
  refine ⟨_, rfl, hlt, fun j hj => h.cells (g := g) rfl j _ ?_⟩
  rw [iv_at hj]

/-- a new block of ints -/
theorem RdI.lit (w : World) (zs : List Int) (hz : FitI zs) (t : TypeId) (cs : Array Value) (hcs : cs = (iv zs).toArray) : RdI (w.alloc (.cells cs t)) (w.heap.size + 1) (some ⟨w.heap.size, 0, none⟩) zs.length zs := by
  subst hcs
  refine ⟨rfl, fun _ => ⟨_, rfl, Nat.lt_succ_self _, fun j hj => ?_⟩, hz⟩
  rw [Addr.add_lit, Nat.zero_add, (Blk.new w t _).cell, List.getElem?_toArray, iv_at hj]

theorem RdI.lit_at (w : World) (k : Nat) (hk : k = w.heap.size) (zs : List Int) (hz : FitI zs) (t : TypeId) (cs : Array Value) (hcs : cs = (iv zs).toArray) : RdI (w.alloc (.cells cs t)) (k + 1) (some ⟨k, 0, none⟩) zs.length zs := by
  subst hk
  exact RdI.lit w zs hz t cs hcs

/-- What a function leaves that hands back ints in a row of its own, from block 'base' on. -/
def OutI (base : Nat) (t : TypeId) (w : World) (zs : List Int) (e : Ending) (w' : World) : Prop :=
  ∃ A n c, e = .returned (.slice A n c) ∧ w'.ownsRow base t 1 (.slice A n c) n (iv zs) ∧ Below base w w'

/-- APPEND OF ONE ELEMENT, which lies in a new block, onto a row of the call's own: and where the row lies then. -/
theorem wpList_app1L {P : Program} (w : World) {ops : Array Oper} {rest : List Oper} {o : Oper} {a : Act} {Q : Exit → Act → World → Prop} (hgd : o.guard = none) (s x : Operand) (t : TypeId)
    (ho : o.op = .call { callee := .builtin .append, args := #[s, x], argTypes := #[t, t] })
    (base : Nat) (e : TypeId) (i : TypeInfo) (z : Value) (bytes : Nat) (ht : P.underlying t = some (.slice e)) (hi : P.info? e = some i) (hz : i.zero = some z)
    (hsize : i.size = 1) (hby : i.bytes = bytes) (hzs : z.cells.size = 1)
    (v : Value) (n : Nat) (xs : List Value) (hs : a.eval s = v) (hown : w.ownsRow base e 1 v n xs)
    (ad : Addr) (c : Nat) (u : Value) (hx : a.eval x = .slice (some ad) 1 c) (hc : w.cell? ad = some u) (hu : u.oneCell' = true)
    (hbytes : (n + 1) * bytes ≤ 140737488355328) (hmax : n + 1 ≤ maxLen) (hbase : base ≤ w.heap.size)
    (h : ∀ A' c' w', w'.ownsRow base e 1 (.slice A' (n + 1) c') (n + 1) (xs ++ [u]) → w.grownBy w' v.ownBlock → ((Value.slice A' (n + 1) c').ownBlock = v.ownBlock ∨ (Value.slice A' (n + 1) c').ownBlock = some w.heap.size) → wpList P ops Q rest (a.put o.dst (.slice A' (n + 1) c')) w') : wpList P ops Q (o :: rest) a w := by
  refine wpList_plain hgd fun _ hK => ?_
  obtain ⟨v', w', hrun, h2, h3, _, h5⟩ := run_append_own_at (P := P) w base t o.type e i z 1 bytes ht hi hz hsize hby hzs (by omega) v n xs hown ad 1 c [u] rfl
    (fun j u' hj => by
      match j, hj with
      | 0, hj => simp at hj; subst hj; simpa [Addr.add] using hc)
    (fun u' hu' => by simp at hu'; subst hu'; exact hu) hmax hbytes hbase
  obtain ⟨A', c', rfl⟩ := own_slice h2
  unfold Oper.wp execOp
  simp only [ho, resolve, invoke, builtin, Sem.run_bind, Sem.run_pure, Result.andThen_ok, List.map_toArray, List.map_cons, List.map_nil, hs, hx, hrun]
  exact hK _ _ (h A' c' w' h2 h3 h5)

theorem RdI.grown {w w' : World} {B : Nat} {A : Option Addr} {n : Nat} {zs : List Int} {row : Option Nat} (h : RdI w B A n zs) (hg : w.grownBy w' row) (hB : B ≤ w.heap.size) (hs : 0 < n → ∀ ad, A = some ad → row ≠ some ad.block) : RdI w' B A n zs :=
  ⟨h.1, fun hn => by
    obtain ⟨ad, e, hb, hc⟩ := h.2.1 hn
    refine ⟨ad, e, hb, fun j hj => ?_⟩
    rw [← hc j hj]
    exact World.cell?_of_block (by rw [blk_add]; exact hg.block _ (by omega) (fun e2 => hs hn ad e e2.symm)), h.2.2⟩

/-- the row that an owned slice leads to lies from its base on -/
theorem own_ge {w : World} {base : Nat} {e : TypeId} {A : Option Addr} {n c : Nat} {xs : List Value} (h : w.ownsRow base e 1 (.slice A n c) n xs) : ∀ ad, A = some ad → base ≤ ad.block := by
  intro ad hA
  subst hA
  rcases h.2 with ⟨hv, _⟩ | ⟨g, cap, cur, hv, hb, _⟩
  · cases hv
  · injection hv with h1
    injection h1 with h1
    subst h1
    exact hb

/-- A row of the call's own (zs), and another that is read (ys), apart. -/
structure Two (w wr : World) (t : TypeId) (A : Option Addr) (n c : Nat) (xs : List Value) (A1 : Option Addr) (m : Nat) (ys : List Int) : Prop where
  own : wr.ownsRow w.heap.size t 1 (.slice A n c) n xs
  bel : Below w.heap.size w wr
  rd : RdI wr wr.heap.size A1 m ys
  off : 0 < m → ∀ ad, A1 = some ad → (Value.slice A n c).ownBlock ≠ some ad.block

/-- a row handed back by a call lies apart from one that was there -/
theorem Two.start {w w1 w2 : World} {t t2 : TypeId} {A : Option Addr} {n c : Nat} {xs : List Value} {A1 : Option Addr} {m c1 : Nat} {ys : List Int}
    (ho : w1.ownsRow w.heap.size t 1 (.slice A n c) n xs) (hb : Below w.heap.size w w1) (h1 : w2.ownsRow w1.heap.size t2 1 (.slice A1 m c1) m (iv ys)) (hf : FitI ys) (hb2 : Below w1.heap.size w1 w2) :
    Two w w2 t A n c xs A1 m ys :=
  ⟨own_below ho hb2, hb.trans (hb2.mono hb.size), RdI.of_iv h1 hf, fun _ ad hA e => by
    have h2 := own_ge h1 ad hA
    have h3 := (ho.lt _ e).2
    omega⟩

/-- an append onto the first, of what lies in a new block -/
theorem Two.push {w wr w' : World} {t : TypeId} {A A' : Option Addr} {n c n' c' : Nat} {xs xs' : List Value} {A1 : Option Addr} {m : Nat} {ys : List Int} {o : Obj}
    (h : Two w wr t A n c xs A1 m ys) (ho : w'.ownsRow w.heap.size t 1 (.slice A' n' c') n' xs') (hg : (wr.alloc o).grownBy w' (Value.slice A n c).ownBlock)
    (hw : (Value.slice A' n' c').ownBlock = (Value.slice A n c).ownBlock ∨ (Value.slice A' n' c').ownBlock = some (wr.alloc o).heap.size) : Two w w' t A' n' c' xs' A1 m ys := by
  have hz : (wr.alloc o).heap.size = wr.heap.size + 1 := by simp
  refine ⟨ho, ?_, ?_, ?_⟩
  · exact (h.bel.alloc h.bel.size o).trans ⟨hg.os, hg.tape, hg.output, hg.size, fun k hk => hg.block k (by have := h.bel.size; omega) (fun e => by
      have := (h.own.lt _ e.symm).1
      omega)⟩
  · exact ((h.rd.alloc (Nat.le_refl _) o).grown hg (by omega) (fun hm ad hA e => h.off hm ad hA e)).more (by have := hg.size; omega)
  · intro hm ad hA e
    rcases hw with hw | hw
    · exact h.off hm ad hA (hw.symm.trans e)
    · rw [hw] at e
      injection e with e
      obtain ⟨ad', hA', hb', _⟩ := h.rd.2.1 hm
      rw [hA] at hA'
      injection hA' with hA'
      subst hA'
      omega

/-- an append onto a row of the call's own, of what lies in a new block, leaves what was there -/
theorem app_below {w wr w' : World} {t : TypeId} {v : Value} {n : Nat} {xs : List Value} {o : Obj} (ho : wr.ownsRow w.heap.size t 1 v n xs) (hb : Below w.heap.size w wr) (hg : (wr.alloc o).grownBy w' v.ownBlock) : Below w.heap.size w w' :=
  (hb.alloc hb.size o).trans ⟨hg.os, hg.tape, hg.output, hg.size, fun k hk => hg.block k (by have := hb.size; simp; omega) (fun e => by
    have := (ho.lt _ e.symm).1
    omega)⟩

/-- APPEND of a slice that reads as ints onto a row of the call's own, as an equation (for an operation behind a guard, too). -/
theorem run_appI {P : Program} (w : World) (base : Nat) (t ty e : TypeId) (i : TypeInfo) (ht : P.underlying t = some (.slice e)) (hi : P.info? e = some i) (hz : i.zero = some (.int .i64 0))
    (hsize : i.size = 1) (hby : i.bytes = 8) (v : Value) (n : Nat) (xs : List Int) (hown : w.ownsRow base e 1 v n (iv xs))
    (B : Nat) (A : Option Addr) (m c : Nat) (ys : List Int) (hr : RdI w B A m ys) (hbytes : n + m ≤ 1000000) (hbase : base ≤ w.heap.size) :
    ∃ A' c' w', (Builtin.append_ #[t, t] ty #[v, .slice A m c]).run P w = .ok (.slice A' (n + m) c') w' ∧ w'.ownsRow base e 1 (.slice A' (n + m) c') (n + m) (iv (xs ++ ys)) ∧ w.grownBy w' v.ownBlock ∧ ((Value.slice A' (n + m) c').ownBlock = v.ownBlock ∨ (Value.slice A' (n + m) c').ownBlock = some w.heap.size) := by
  cases A with
  | none =>
    have hm : m = 0 := by
      rcases Nat.eq_zero_or_pos m with h0 | h0
      · exact h0
      · obtain ⟨ad, h, _⟩ := hr.2.1 h0
        cases h
    subst hm
    have hn : ys = [] := List.eq_nil_of_length_eq_zero hr.1
    subst hn
    obtain ⟨A', c', rfl⟩ := own_slice hown
    refine ⟨A', c', w, ?_, by simpa using hown, World.grownBy.refl w _, .inl rfl⟩
    rcases hown.2 with ⟨hv, h0⟩ | ⟨g, cap, cur, hv, _, _, hnc, _⟩
    · injection hv with h1 h2 h3
      subst h1 h3 h0
      simp [Builtin.append_, run_underlying ht, sizeOf, typeInfo, hi, Builtin.lenOf, Builtin.firstCells]
    · injection hv with h1 h2 h3
      subst h1 h3
      simp [Builtin.append_, run_underlying ht, sizeOf, typeInfo, hi, Builtin.lenOf, Builtin.firstCells, hnc, storeCells]
  | some ad =>
    obtain ⟨v', w', hrun, h2, h3, _, h5⟩ := run_append_own_at (P := P) w base t ty e i (.int .i64 0) 1 8 ht hi hz hsize hby rfl (by omega) v n (iv xs) hown ad m c (iv ys)
      (by rw [iv_length, hr.1]; omega) (fun j u hu => by
        have hj : j < ys.length := by
          have := (List.getElem?_eq_some_iff.1 hu).1
          rw [iv_length] at this
          exact this
        obtain ⟨ad', e', _, hc⟩ := hr.2.1 (by have := hr.1; omega)
        obtain rfl : ad = ad' := by injection e'
        rw [hc j hj, ← iv_at hj, hu]) (fun u hu => by
        unfold iv at hu
        obtain ⟨z, _, rfl⟩ := List.mem_map.1 hu
        rfl) (by unfold maxLen; omega) (by omega) hbase
    obtain ⟨A', c', rfl⟩ := own_slice h2
    exact ⟨A', c', w', hrun, by rw [iv_append]; exact h2, h3, h5⟩

/-- The same as a step of the walk; the operation may stand behind a guard that says yes. -/
theorem wpList_appI {P : Program} (w : World) {ops : Array Oper} {rest : List Oper} {o : Oper} {a : Act} {Q : Exit → Act → World → Prop} (hgd : Region.wanted o (yielded ops a.tmps) = true) (s x : Operand) (t : TypeId)
    (ho : o.op = .call { callee := .builtin .append, args := #[s, x], argTypes := #[t, t] })
    (base : Nat) (e : TypeId) (i : TypeInfo) (ht : P.underlying t = some (.slice e)) (hi : P.info? e = some i) (hz : i.zero = some (.int .i64 0)) (hsize : i.size = 1) (hby : i.bytes = 8)
    (v : Value) (n : Nat) (xs : List Int) (hs : a.eval s = v) (hown : w.ownsRow base e 1 v n (iv xs))
    (B : Nat) (A : Option Addr) (m c : Nat) (ys : List Int) (hx : a.eval x = .slice A m c) (hr : RdI w B A m ys) (hbytes : n + m ≤ 1000000) (hbase : base ≤ w.heap.size)
    (h : ∀ A' c' w', w'.ownsRow base e 1 (.slice A' (n + m) c') (n + m) (iv (xs ++ ys)) → w.grownBy w' v.ownBlock → ((Value.slice A' (n + m) c').ownBlock = v.ownBlock ∨ (Value.slice A' (n + m) c').ownBlock = some w.heap.size) → wpList P ops Q rest (a.put o.dst (.slice A' (n + m) c')) w') : wpList P ops Q (o :: rest) a w := by
  refine wpList_step fun K hK => ?_
  rw [if_pos hgd]
  obtain ⟨A', c', w', hrun, h2, h3, h5⟩ := run_appI (P := P) w base t o.type e i ht hi hz hsize hby v n xs hown B A m c ys hr hbytes hbase
  unfold Oper.wp execOp
  simp only [ho, resolve, invoke, builtin, Sem.run_bind, Sem.run_pure, Result.andThen_ok, List.map_toArray, List.map_cons, List.map_nil, hs, hx, hrun]
  exact hK _ _ (h A' c' w' h2 h3 h5)

theorem app_below0 {w wr w' : World} {t : TypeId} {v : Value} {n : Nat} {xs : List Value} (ho : wr.ownsRow w.heap.size t 1 v n xs) (hb : Below w.heap.size w wr) (hg : wr.grownBy w' v.ownBlock) : Below w.heap.size w w' :=
  hb.trans ⟨hg.os, hg.tape, hg.output, hg.size, fun k hk => hg.block k (by have := hb.size; omega) (fun e => by
    have := (ho.lt _ e.symm).1
    omega)⟩

end Go.Proofs.YtgeglhgkibcpfaaDoor
