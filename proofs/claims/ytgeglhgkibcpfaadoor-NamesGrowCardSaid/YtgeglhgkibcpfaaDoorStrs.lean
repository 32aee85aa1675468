/- Slices of strings in memory: rows that are read, rows that the call owns, appends of one element. No function of the program is named here. -/
import Derived.Test.YtgeglhgkibcpfaaDoorBlk
namespace Go.Proofs.YtgeglhgkibcpfaaDoor
open Go.RowKit

/-- a text as the model holds it -/
def bs (x : List UInt8) : ByteArray := ⟨x.toArray⟩
/-- texts as cells -/
def sc (ls : List (List UInt8)) : List Value := ls.map fun x => Value.string (bs x)

theorem bs_data (s : ByteArray) : bs s.data.toList = s := by cases s; simp [bs]
theorem data_bs (x : List UInt8) : (bs x).data.toList = x := by simp [bs]
theorem bs_size (x : List UInt8) : (bs x).size = x.length := by show x.toArray.size = _; simp
theorem sc_length (ls : List (List UInt8)) : (sc ls).length = ls.length := by simp [sc]
theorem sc_snoc (ls : List (List UInt8)) (x : List UInt8) : sc (ls ++ [x]) = sc ls ++ [.string (bs x)] := by simp [sc]
theorem sc_at {ls : List (List UInt8)} {j : Nat} (h : j < ls.length) : (sc ls)[j]? = some (.string (bs (ls[j]?.getD []))) := by simp [sc, h]

/-- A slice (its address A, its length n) reads as the texts ls; it lies below block B. -/
def RdS (w : World) (B : Nat) (A : Option Addr) (n : Nat) (ls : List (List UInt8)) : Prop :=
  ls.length = n ∧ (0 < n → ∃ ad : Addr, A = some ad ∧ ad.block < B ∧ ∀ j, j < ls.length → w.cell? (ad.add j) = some (.string (bs (ls[j]?.getD []))))

theorem RdS.keep {w w' : World} {B : Nat} {A : Option Addr} {n : Nat} {ls : List (List UInt8)} (h : RdS w B A n ls) (hk : ∀ p : Addr, p.block < B → w'.cell? p = w.cell? p) : RdS w' B A n ls :=
  ⟨h.1, fun hn => by
    obtain ⟨ad, e, hb, hc⟩ := h.2 hn
    exact ⟨ad, e, hb, fun j hj => (hk _ (by rw [blk_add]; exact hb)).trans (hc j hj)⟩⟩

theorem RdS.below {w w' : World} {B : Nat} {A : Option Addr} {n : Nat} {ls : List (List UInt8)} (h : RdS w B A n ls) (hb : Below B w w') : RdS w' B A n ls := h.keep fun _ hp => hb.cell hp

theorem RdS.more {w : World} {B B' : Nat} {A : Option Addr} {n : Nat} {ls : List (List UInt8)} (h : RdS w B A n ls) (hB : B ≤ B') : RdS w B' A n ls :=
  ⟨h.1, fun hn => by
    obtain ⟨ad, e, hb, hc⟩ := h.2 hn
    exact ⟨ad, e, by omega, hc⟩⟩

theorem RdS.of_own {w : World} {base : Nat} {e : TypeId} {A : Option Addr} {n c : Nat} {ls : List (List UInt8)} (h : w.ownsRow base e 1 (.slice A n c) n (sc ls)) : RdS w w.heap.size A n ls := by
  have hl : ls.length = n := by have := h.1; rw [sc_length] at this; omega
  refine ⟨hl, fun hn => ?_⟩
  obtain ⟨g, cap, hv, _, hlt⟩ := h.form hn
  have hA : A = some ⟨g, 0, none⟩ := by injection hv
  subst hA
  exact ⟨_, rfl, hlt, fun j hj => h.cells (g := g) rfl j _ (sc_at hj)⟩

theorem RdS.nil (w : World) (B : Nat) (A : Option Addr) : RdS w B A 0 [] := ⟨rfl, fun h => absurd h (by omega)⟩

/-- the texts behind the first k -/
theorem RdS.tail {w : World} {B : Nat} {A : Option Addr} {n : Nat} {ls : List (List UInt8)} (h : RdS w B A n ls) {k cap : Nat} (hk : k ≤ n) (hc : n ≤ cap) :
    RdS w B (if cap = k then A else A.map (·.add k)) (n - k) (ls.drop k) := by
  have hl := h.1
  refine ⟨by rw [List.length_drop, h.1], fun hn => ?_⟩
  obtain ⟨ad, rfl, hb, hcell⟩ := h.2 (by omega)
  rw [if_neg (by omega)]
  refine ⟨ad.add k, rfl, by rw [blk_add]; exact hb, fun j hj => ?_⟩
  rw [List.length_drop] at hj
  rw [add_add, hcell (k + j) (by omega), List.getElem?_drop]

/-- What a function leaves that hands back texts in a row of its own, from block 'base' on. -/
def OutS (base : Nat) (t : TypeId) (w : World) (ls : List (List UInt8)) (e : Ending) (w' : World) : Prop :=
  ∃ A n c, e = .returned (.slice A n c) ∧ w'.ownsRow base t 1 (.slice A n c) n (sc ls) ∧ Below base w w'

theorem ownS_len {w : World} {base : Nat} {e : TypeId} {v : Value} {n : Nat} {ls : List (List UInt8)} (h : w.ownsRow base e 1 v n (sc ls)) : ls.length = n := by
  have := h.1
  rw [sc_length] at this
  omega

theorem ownS_nil (w : World) (base : Nat) (e : TypeId) : w.ownsRow base e 1 (.slice none 0 0) 0 (sc []) := ⟨by simp [sc], .inl ⟨rfl, rfl⟩⟩

/-- APPEND OF ONE ELEMENT, which lies in a new block, onto a row of the call's own. -/
theorem wpList_app1 {P : Program} (w : World) {ops : Array Oper} {rest : List Oper} {o : Oper} {a : Act} {Q : Exit → Act → World → Prop} (hgd : o.guard = none) (s x : Operand) (t : TypeId)
    (ho : o.op = .call { callee := .builtin .append, args := #[s, x], argTypes := #[t, t] })
    (base : Nat) (e : TypeId) (i : TypeInfo) (z : Value) (bytes : Nat) (ht : P.underlying t = some (.slice e)) (hi : P.info? e = some i) (hz : i.zero = some z)
    (hsize : i.size = 1) (hby : i.bytes = bytes) (hzs : z.cells.size = 1)
    (v : Value) (n : Nat) (xs : List Value) (hs : a.eval s = v) (hown : w.ownsRow base e 1 v n xs)
    (ad : Addr) (c : Nat) (u : Value) (hx : a.eval x = .slice (some ad) 1 c) (hc : w.cell? ad = some u) (hu : u.oneCell' = true)
    (hbytes : (n + 1) * bytes ≤ 140737488355328) (hmax : n + 1 ≤ maxLen) (hbase : base ≤ w.heap.size)
    (h : ∀ A' c' w', w'.ownsRow base e 1 (.slice A' (n + 1) c') (n + 1) (xs ++ [u]) → w.grownBy w' v.ownBlock → wpList P ops Q rest (a.put o.dst (.slice A' (n + 1) c')) w') : wpList P ops Q (o :: rest) a w := by
  refine wpList_plain hgd fun _ hK => ?_
  obtain ⟨v', w', hrun, h2, h3, _⟩ := run_append_own (P := P) w base t o.type e i z 1 bytes ht hi hz hsize hby hzs (by omega) v n xs hown ad 1 c [u] rfl
    (fun j u' hj => by
      match j, hj with
      | 0, hj => simp at hj; subst hj; simpa [Addr.add] using hc)
    (fun u' hu' => by simp at hu'; subst hu'; exact hu) hmax hbytes hbase
  obtain ⟨A', c', rfl⟩ := own_slice h2
  unfold Oper.wp execOp
  simp only [ho, resolve, invoke, builtin, Sem.run_bind, Sem.run_pure, Result.andThen_ok, List.map_toArray, List.map_cons, List.map_nil, hs, hx, hrun]
  exact hK _ _ (h A' c' w' h2 h3)

theorem new_cell (w : World) (t : TypeId) (u : Value) : (w.alloc (.cells #[u] t)).cell? ⟨w.heap.size, 0, none⟩ = some u := (Blk.new w t #[u]).cell 0

end Go.Proofs.YtgeglhgkibcpfaaDoor
