/- Append, for elements of any number of cells: a slice whose cells read as given values is appended onto a row of the call's own. No function of the program is named here. -/
import Derived.Test.YtgeglhgkibcpfaaDoorNams
namespace Go.Proofs.YtgeglhgkibcpfaaDoor
open Go.RowKit
set_option linter.unusedVariables false

/-- a slice of m elements of sz cells each reads as the values vs; it lies below block B -/
def RdV (sz : Nat) (w : World) (B : Nat) (A : Option Addr) (m : Nat) (vs : List Value) : Prop :=
  vs.length = m * sz ∧ (0 < m → ∃ ad : Addr, A = some ad ∧ ad.block < B ∧ ∀ j u, vs[j]? = some u → w.cell? (ad.add j) = some u)

theorem RdV.nil (sz : Nat) (w : World) (B : Nat) (A : Option Addr) : RdV sz w B A 0 [] := ⟨by simp, fun h => absurd h (by omega)⟩
theorem RdV.keep {sz : Nat} {w w' : World} {B : Nat} {A : Option Addr} {n : Nat} {vs : List Value} (h : RdV sz w B A n vs) (hk : ∀ p : Addr, p.block < B → w'.cell? p = w.cell? p) : RdV sz w' B A n vs :=
  ⟨h.1, fun hn => by
    obtain ⟨ad, e, hb, hc⟩ := h.2 hn
    exact ⟨ad, e, hb, fun j u hu => (hk _ (by rw [blk_add]; exact hb)).trans (hc j u hu)⟩⟩
theorem RdV.below {sz : Nat} {w w' : World} {B : Nat} {A : Option Addr} {n : Nat} {vs : List Value} (h : RdV sz w B A n vs) (hb : Below B w w') : RdV sz w' B A n vs := h.keep fun _ hp => hb.cell hp
theorem RdV.more {sz : Nat} {w : World} {B B' : Nat} {A : Option Addr} {n : Nat} {vs : List Value} (h : RdV sz w B A n vs) (hB : B ≤ B') : RdV sz w B' A n vs :=
  ⟨h.1, fun hn => by
    obtain ⟨ad, e, hb, hc⟩ := h.2 hn
    exact ⟨ad, e, by omega, hc⟩⟩
/-- one element in a block of its own -/
theorem RdV.one {w : World} {g sz : Nat} {e : TypeId} {cs : List Value} (hb : Blk w g e cs.toArray) (hl : cs.length = sz) : RdV sz w w.heap.size (some ⟨g, 0, none⟩) 1 cs :=
  ⟨by omega, fun _ => ⟨_, rfl, hb.lt, fun j u hu => by
    rw [Addr.add_lit, Nat.zero_add, hb.cell, List.getElem?_toArray]
    exact hu⟩⟩
/-- out of an own row -/
theorem RdV.of_own {w : World} {base sz : Nat} {e : TypeId} {A : Option Addr} {n c : Nat} {xs : List Value} (h : w.ownsRow base e sz (.slice A n c) n xs) : RdV sz w w.heap.size A n xs := by
  refine ⟨h.1, fun hn => ?_⟩
  obtain ⟨g, cap, hv, _, hlt⟩ := h.form hn
  have hA : A = some ⟨g, 0, none⟩ := by injection hv
  subst hA
  exact ⟨_, rfl, hlt, fun j u hu => h.cells (g := g) rfl _ _ hu⟩

theorem own_nilV (w : World) (base : Nat) (e : TypeId) (sz : Nat) : w.ownsRow base e sz (.slice none 0 0) 0 [] := ⟨by simp, .inl ⟨rfl, rfl⟩⟩

theorem run_appV {P : Program} (w : World) (t ty : TypeId) (base : Nat) (e : TypeId) (i : TypeInfo) (z : Value) (sz by_ : Nat) (ht : P.underlying t = some (.slice e)) (hi : P.info? e = some i) (hz : i.zero = some z) (hzs : z.cells.size = sz) (hsize : i.size = sz) (hby : i.bytes = by_) (hsz : 0 < sz)
    (v : Value) (n : Nat) (xs : List Value) (hown : w.ownsRow base e sz v n xs) (B : Nat) (A : Option Addr) (m c : Nat) (vs : List Value) (hr : RdV sz w B A m vs) (h1 : ∀ u ∈ vs, u.oneCell' = true) (hfew : n + m ≤ 1000000) (hbytes : (n + m) * by_ ≤ 140737488355328) (hbase : base ≤ w.heap.size) :
    ∃ A' c' w', (Builtin.append_ #[t, t] ty #[v, .slice A m c]).run P w = .ok (.slice A' (n + m) c') w' ∧ w'.ownsRow base e sz (.slice A' (n + m) c') (n + m) (xs ++ vs) ∧ w.grownBy w' v.ownBlock := by
  cases A with
  | none =>
    have hm : m = 0 := by
      rcases Nat.eq_zero_or_pos m with h0 | h0
      · exact h0
      · obtain ⟨ad, h, _⟩ := hr.2 h0
        cases h
    subst hm
    have hn : vs = [] := List.eq_nil_of_length_eq_zero (by rw [hr.1, Nat.zero_mul])
    subst hn
    obtain ⟨A', c', rfl⟩ := own_slice hown
    refine ⟨A', c', w, ?_, by simpa using hown, World.grownBy.refl w _⟩
    rcases hown.2 with ⟨hv, h0⟩ | ⟨g, cap, cur, hv, _, _, hnc, _⟩
    · injection hv with h1 h2 h3
      subst h1 h3 h0
      simp [Builtin.append_, run_underlying ht, sizeOf, typeInfo, hi, Builtin.lenOf, Builtin.firstCells]
    · injection hv with h1 h2 h3
      subst h1 h3
      simp [Builtin.append_, run_underlying ht, sizeOf, typeInfo, hi, Builtin.lenOf, Builtin.firstCells, hnc, storeCells]
  | some ad =>
    obtain ⟨v', w', hrun, h2, h3, _⟩ := run_append_own (P := P) w base t ty e i z sz by_ ht hi hz hsize hby hzs hsz v n xs hown ad m c vs hr.1 (fun j u hu => by
        have hj : j < vs.length := (List.getElem?_eq_some_iff.1 hu).1
        have hm : 0 < m := by
          rcases Nat.eq_zero_or_pos m with h0 | h0
          · have := hr.1
            subst h0
            omega
          · exact h0
        obtain ⟨ad', e', _, hc⟩ := hr.2 hm
        obtain rfl : ad = ad' := by injection e'
        exact hc j u hu) h1 (by unfold maxLen; omega) hbytes hbase
    obtain ⟨A', c', rfl⟩ := own_slice h2
    exact ⟨A', c', w', hrun, h2, h3⟩

/-- APPEND onto a row of the call's own. -/
theorem wpList_appV {P : Program} (w : World) {ops : Array Oper} {rest : List Oper} {o : Oper} {a : Act} {Q : Exit → Act → World → Prop} (hgd : o.guard = none) (s x : Operand) (t : TypeId)
    (ho : o.op = .call { callee := .builtin .append, args := #[s, x], argTypes := #[t, t] })
    (base : Nat) (e : TypeId) (i : TypeInfo) (z : Value) (sz by_ : Nat) (ht : P.underlying t = some (.slice e)) (hi : P.info? e = some i) (hz : i.zero = some z) (hzs : z.cells.size = sz) (hsize : i.size = sz) (hby : i.bytes = by_) (hsz : 0 < sz)
    (v : Value) (n : Nat) (xs : List Value) (hs : a.eval s = v) (hown : w.ownsRow base e sz v n xs)
    (B : Nat) (A : Option Addr) (m c : Nat) (vs : List Value) (hx : a.eval x = .slice A m c) (hr : RdV sz w B A m vs) (h1 : ∀ u ∈ vs, u.oneCell' = true) (hfew : n + m ≤ 1000000) (hbytes : (n + m) * by_ ≤ 140737488355328) (hbase : base ≤ w.heap.size)
    (h : ∀ A' c' w', w'.ownsRow base e sz (.slice A' (n + m) c') (n + m) (xs ++ vs) → w.grownBy w' v.ownBlock → wpList P ops Q rest (a.put o.dst (.slice A' (n + m) c')) w') : wpList P ops Q (o :: rest) a w := by
  refine wpList_plain hgd fun _ hK => ?_
  obtain ⟨A', c', w', hrun, h2, h3⟩ := run_appV (P := P) w t o.type base e i z sz by_ ht hi hz hzs hsize hby hsz v n xs hown B A m c vs hr h1 hfew hbytes hbase
  unfold Oper.wp execOp
  simp only [ho, resolve, invoke, builtin, Sem.run_bind, Sem.run_pure, Result.andThen_ok, List.map_toArray, List.map_cons, List.map_nil, hs, hx, hrun]
  exact hK _ _ (h A' c' w' h2 h3)

theorem nmv_one {ts : List Nm} : ∀ u ∈ nmv ts, u.oneCell' = true := by
  intro u hu
  unfold nmv at hu
  obtain ⟨t, _, hu⟩ := List.mem_flatMap.1 hu
  simp [nmc] at hu
  rcases hu with rfl | rfl | rfl <;> rfl

theorem add_three (ad : Addr) (j r : Nat) (hr : r ≠ 0) : ad.add (j * 3 + r) = ⟨(ad.add (j * 3)).block, (ad.add (j * 3)).off + r, none⟩ := by
  unfold Addr.add
  by_cases h : j * 3 = 0
  · rw [h, if_pos rfl, Nat.zero_add, if_neg hr]
  · rw [if_neg h, if_neg (by omega)]
    show _ = (⟨ad.block, ad.off + j * 3 + r, none⟩ : Addr)
    rw [Nat.add_assoc]

/-- names that are read, as values -/
theorem RdN.vals {w : World} {B : Nat} {A : Option Addr} {n : Nat} {ts : List Nm} (h : RdN w B A n ts) : RdV 3 w B A n (nmv ts) := by
  refine ⟨by rw [nmv_len, h.1], fun hn => ?_⟩
  obtain ⟨ad, e, hb, hc⟩ := h.2 hn
  refine ⟨ad, e, hb, fun j u hu => ?_⟩
  have hj : j < (nmv ts).length := (List.getElem?_eq_some_iff.1 hu).1
  rw [nmv_len] at hj
  obtain ⟨k1, k2, k3⟩ := hc (j / 3) (by omega)
  obtain ⟨m1, m2, m3⟩ := nmv_at ts (j / 3) (by omega)
  have hlt : j % 3 < 3 := Nat.mod_lt _ (by omega)
  have he : j = j / 3 * 3 + j % 3 := by omega
  rcases (by omega : j % 3 = 0 ∨ j % 3 = 1 ∨ j % 3 = 2) with h0 | h0 | h0
  · rw [h0, Nat.add_zero] at he
    rw [← he] at k1 m1
    rw [k1, ← m1, hu]
  · rw [h0] at he
    rw [← add_three ad _ 1 (by omega), ← he] at k2
    rw [← he] at m2
    rw [k2, ← m2, hu]
  · rw [h0] at he
    rw [← add_three ad _ 2 (by omega), ← he] at k3
    rw [← he] at m3
    rw [k3, ← m3, hu]

/-- the first k, and those behind them -/
theorem RdN.front {w : World} {B : Nat} {A : Option Addr} {n : Nat} {ts : List Nm} (h : RdN w B A n ts) {k : Nat} (hk : k ≤ n) : RdN w B A k (ts.take k) := by
  have hl := h.1
  refine ⟨by rw [List.length_take]; omega, fun h0 => ?_⟩
  obtain ⟨ad, e, hb, hc⟩ := h.2 (by omega)
  refine ⟨ad, e, hb, fun j hj => ?_⟩
  rw [List.length_take] at hj
  have e2 : (ts.take k)[j]?.getD noNm = ts[j]?.getD noNm := by rw [List.getElem?_take_of_lt (by omega)]
  rw [e2]
  exact hc j (by omega)
theorem RdN.back {w : World} {B : Nat} {A : Option Addr} {n : Nat} {ts : List Nm} (h : RdN w B A n ts) {k cap : Nat} (hk : k ≤ n) (hc : n ≤ cap) : RdN w B (if cap = k then A else A.map (·.add (k * 3))) (n - k) (ts.drop k) := by
  have hl := h.1
  refine ⟨by rw [List.length_drop]; omega, fun h0 => ?_⟩
  obtain ⟨ad, e, hb, hcl⟩ := h.2 (by omega)
  rw [if_neg (by omega), e]
  refine ⟨ad.add (k * 3), rfl, by rw [blk_add]; exact hb, fun j hj => ?_⟩
  rw [List.length_drop] at hj
  have e2 : (ts.drop k)[j]?.getD noNm = ts[k + j]?.getD noNm := by rw [List.getElem?_drop]
  have e3 : (ad.add (k * 3)).add (j * 3) = ad.add ((k + j) * 3) := by
    rw [Nat.add_mul]
    unfold Addr.add
    by_cases h1 : k * 3 = 0
    · rw [h1, if_pos rfl, Nat.zero_add]
    · rw [if_neg h1]
      by_cases h2 : j * 3 = 0
      · rw [h2, if_pos rfl, Nat.add_zero, if_neg h1]
      · rw [if_neg h2, if_neg (by omega)]
        show (⟨ad.block, ad.off + k * 3 + j * 3, none⟩ : Addr) = ⟨ad.block, ad.off + (k * 3 + j * 3), none⟩
        rw [Nat.add_assoc]
  rw [e2, e3]
  exact hcl (k + j) (by omega)

end Go.Proofs.YtgeglhgkibcpfaaDoor
