/- Tokens and errors as structs: how they are loaded, how they are compared. -/
import Derived.Test.YtgeglhgkibcpfaaDoorLexI
import Derived.Laws.StructEq
namespace Go.Proofs.YtgeglhgkibcpfaaDoor
open Go.RowKit

theorem part_int {t : TypeId} {k : IntKind} {cs : Array Value} {o : Nat} {v : Value} (ht : Tryd.prog.underlying t = some (.int k)) (hc : cs[o]? = some v) (w : World) : (part t cs o).run Tryd.prog w = .ok v w := by
  unfold part
  have ha : (isAgg t).run Tryd.prog w = .ok false w := by
    unfold isAgg
    rw [Sem.run_bind, run_underlying ht w]
    rfl
  simp [Sem.run_bind, ha, hc]

theorem part_str {t : TypeId} {cs : Array Value} {o : Nat} {v : Value} (ht : Tryd.prog.underlying t = some .string) (hc : cs[o]? = some v) (w : World) : (part t cs o).run Tryd.prog w = .ok v w := by
  unfold part
  have ha : (isAgg t).run Tryd.prog w = .ok false w := by
    unfold isAgg
    rw [Sem.run_bind, run_underlying ht w]
    rfl
  simp [Sem.run_bind, ha, hc]

theorem eqF_int {d : Nat} {xs ys : Array Value} {f : Field} {fs : List Field} {k k2 : IntKind} {a b : Int} (hn : f.name ≠ "_") (ht : Tryd.prog.underlying f.type = some (.int k)) (hx : xs[f.offset]? = some (.int k2 a)) (hy : ys[f.offset]? = some (.int k2 b)) (w : World) :
    (Op.eqFields (d + 1) xs ys (f :: fs)).run Tryd.prog w = if (a == b) = true then (Op.eqFields (d + 1) xs ys fs).run Tryd.prog w else .ok false w := by
  have e : Op.eqFields (d + 1) xs ys (f :: fs) = if f.name ≠ "_" then (do
      let a ← part f.type xs f.offset
      let b ← part f.type ys f.offset
      let r ← Op.equalIn (d + 1) f.type a b
      if (!r) = true then pure false else Op.eqFields (d + 1) xs ys fs) else Op.eqFields (d + 1) xs ys fs := rfl
  rw [e, if_pos hn]
  simp only [Sem.run_bind, part_int ht hx, part_int ht hy, Result.andThen_ok]
  have h : (Op.equalIn (d + 1) f.type (.int k2 a) (.int k2 b)).run Tryd.prog w = .ok (a == b) w := by simp [Op.equalIn, run_underlying ht]
  rw [h]
  simp only [Result.andThen_ok]
  cases (a == b) <;> simp [Sem.run_pure]

theorem eqF_str {d : Nat} {xs ys : Array Value} {f : Field} {fs : List Field} {a b : ByteArray} (hn : f.name ≠ "_") (ht : Tryd.prog.underlying f.type = some .string) (hx : xs[f.offset]? = some (.string a)) (hy : ys[f.offset]? = some (.string b)) (w : World) :
    (Op.eqFields (d + 1) xs ys (f :: fs)).run Tryd.prog w = if (a.toList == b.toList) = true then (Op.eqFields (d + 1) xs ys fs).run Tryd.prog w else .ok false w := by
  have e : Op.eqFields (d + 1) xs ys (f :: fs) = if f.name ≠ "_" then (do
      let a ← part f.type xs f.offset
      let b ← part f.type ys f.offset
      let r ← Op.equalIn (d + 1) f.type a b
      if (!r) = true then pure false else Op.eqFields (d + 1) xs ys fs) else Op.eqFields (d + 1) xs ys fs := rfl
  rw [e, if_pos hn]
  simp only [Sem.run_bind, part_str ht hx, part_str ht hy, Result.andThen_ok, run_equalIn_string w d f.type a b ht]
  cases (a.toList == b.toList) <;> simp [Sem.run_pure]

theorem bs_list (x : List UInt8) : (bs x).toList = x := by rw [ByteArray.toList_eq]; simp [bs]

theorem beq_dec9 {α : Type} [BEq α] [LawfulBEq α] [DecidableEq α] (a b : α) : (a == b) = decide (a = b) := by
  by_cases h : a = b
  · subst h; simp
  · simp [h]

theorem if_dec {p q : Prop} [Decidable p] [Decidable q] {w : World} {b : Bool} (hb : b = decide p) {r : Result Bool} (hr : r = .ok (decide q) w) : (if b = true then r else .ok false w) = .ok (decide (p ∧ q)) w := by
  subst hb hr
  by_cases h : p
  · simp [h]
  · simp [h]

theorem eq_toks (d : Nat) (a b : Tk) (w : World) : ∀ fs : List Field, fs.map (fun f => (f.name, f.type, f.offset)) = [("Kind", 3, 0), ("Text", 9, 1), ("Num", 3, 2), ("Line", 3, 3), ("Col", 3, 4)] →
    (Op.eqFields (d + 1) (tkc a).toArray (tkc b).toArray fs).run Tryd.prog w = .ok (decide (a = b)) w := by
  intro fs h
  obtain ⟨f1, r1, rfl, e1, h⟩ := List.map_eq_cons_iff.1 h
  obtain ⟨f2, r2, rfl, e2, h⟩ := List.map_eq_cons_iff.1 h
  obtain ⟨f3, r3, rfl, e3, h⟩ := List.map_eq_cons_iff.1 h
  obtain ⟨f4, r4, rfl, e4, h⟩ := List.map_eq_cons_iff.1 h
  obtain ⟨f5, r5, rfl, e5, h⟩ := List.map_eq_cons_iff.1 h
  obtain rfl := List.map_eq_nil_iff.1 h
  simp only [Prod.mk.injEq] at e1 e2 e3 e4 e5
  obtain ⟨n1, t1, o1⟩ := e1
  obtain ⟨n2, t2, o2⟩ := e2
  obtain ⟨n3, t3, o3⟩ := e3
  obtain ⟨n4, t4, o4⟩ := e4
  obtain ⟨n5, t5, o5⟩ := e5
  have hnil : (Op.eqFields (d + 1) (tkc a).toArray (tkc b).toArray []).run Tryd.prog w = .ok (decide True) w := by simp [Op.eqFields, Sem.run_pure]
  · skip
    rw [eqF_int (a := a.kind) (b := b.kind) (by rw [n1]; decide) (by rw [t1]; exact Tryd.underlying3) (by rw [o1]; rfl) (by rw [o1]; rfl),
      eqF_str (a := bs a.text) (b := bs b.text) (by rw [n2]; decide) (by rw [t2]; exact Tryd.underlying9) (by rw [o2]; rfl) (by rw [o2]; rfl),
      eqF_int (a := a.num) (b := b.num) (by rw [n3]; decide) (by rw [t3]; exact Tryd.underlying3) (by rw [o3]; rfl) (by rw [o3]; rfl),
      eqF_int (a := a.line) (b := b.line) (by rw [n4]; decide) (by rw [t4]; exact Tryd.underlying3) (by rw [o4]; rfl) (by rw [o4]; rfl),
      eqF_int (a := a.col) (b := b.col) (by rw [n5]; decide) (by rw [t5]; exact Tryd.underlying3) (by rw [o5]; rfl) (by rw [o5]; rfl), bs_list, bs_list]
    refine (if_dec (p := a.kind = b.kind) (beq_dec9 _ _) (if_dec (p := a.text = b.text) (beq_dec9 _ _) (if_dec (p := a.num = b.num) (beq_dec9 _ _) (if_dec (p := a.line = b.line) (beq_dec9 _ _) (if_dec (p := a.col = b.col) (q := True) (beq_dec9 _ _) hnil))))).trans ?_
    congr 1
    obtain ⟨k1, x1, m1, l1, c1⟩ := a
    obtain ⟨k2, x2, m2, l2, c2⟩ := b
    simp [Tk.mk.injEq]

theorem eq_fails (d : Nat) (a b c a' b' c' : Int) (w : World) : ∀ fs : List Field, fs.map (fun f => (f.name, f.type, f.offset)) = [("Err", 28, 0), ("Line", 3, 1), ("Col", 3, 2)] →
    (Op.eqFields (d + 1) #[.int .i64 a, .int .i64 b, .int .i64 c] #[.int .i64 a', .int .i64 b', .int .i64 c'] fs).run Tryd.prog w = .ok (decide ((a, b, c) = (a', b', c'))) w := by
  intro fs h
  obtain ⟨f1, r1, rfl, e1, h⟩ := List.map_eq_cons_iff.1 h
  obtain ⟨f2, r2, rfl, e2, h⟩ := List.map_eq_cons_iff.1 h
  obtain ⟨f3, r3, rfl, e3, h⟩ := List.map_eq_cons_iff.1 h
  obtain rfl := List.map_eq_nil_iff.1 h
  simp only [Prod.mk.injEq] at e1 e2 e3
  obtain ⟨n1, t1, o1⟩ := e1
  obtain ⟨n2, t2, o2⟩ := e2
  obtain ⟨n3, t3, o3⟩ := e3
  have hnil : (Op.eqFields (d + 1) #[.int .i64 a, .int .i64 b, .int .i64 c] #[.int .i64 a', .int .i64 b', .int .i64 c'] []).run Tryd.prog w = .ok (decide True) w := by simp [Op.eqFields, Sem.run_pure]
  · skip
    rw [eqF_int (a := a) (b := a') (by rw [n1]; decide) (by rw [t1]; exact Tryd.underlying28) (by rw [o1]; rfl) (by rw [o1]; rfl),
      eqF_int (a := b) (b := b') (by rw [n2]; decide) (by rw [t2]; exact Tryd.underlying3) (by rw [o2]; rfl) (by rw [o2]; rfl),
      eqF_int (a := c) (b := c') (by rw [n3]; decide) (by rw [t3]; exact Tryd.underlying3) (by rw [o3]; rfl) (by rw [o3]; rfl)]
    refine (if_dec (p := a = a') (beq_dec9 _ _) (if_dec (p := b = b') (beq_dec9 _ _) (if_dec (p := c = c') (q := True) (beq_dec9 _ _) hnil))).trans ?_
    congr 1
    simp [Prod.mk.injEq]

end Go.Proofs.YtgeglhgkibcpfaaDoor
