/- Fields of expressions and of statements as structs by value: how they are made and compared; contracts of the program's exprFields, stmtFields. -/
import Derived.Test.YtdmpadonnobeaaaTreU
import Derived.Laws.StructEq
import Derived.Laws.ResultCell
namespace Go.Proofs.Ytdmpadonnobeaaa
open Go.RowKit

/-- what can be compared of an expression, of a statement -/
structure FV where
  kind : Int
  op : Int
  num : Int
  name : List UInt8
  args : Int
  body : Int
  els : Int
deriving DecidableEq
def FV.cells (a : FV) : Array Value := #[.int .i64 a.kind, .int .i64 a.op, .int .i64 a.num, .string (bs a.name), .int .i64 a.args, .int .i64 a.body, .int .i64 a.els]
def FV.val (a : FV) : Value := .agg a.cells
/-- a name, a number -/
def lbV (m : Int) (s : List UInt8) : Value := .agg #[.int .i64 m, .string (bs s)]

theorem fv_fields : (Try.prog.fieldsOf 61).toList.map (fun f => (f.name, f.type, f.offset)) = [("kind", 3, 0), ("op", 3, 1), ("label", 59, 2), ("args", 3, 4), ("body", 3, 5), ("otherwise", 3, 6)] := by kernel_rfl
theorem fv_under : Try.prog.underlying 61 = some (.struct (Try.prog.fieldsOf 61)) := by kernel_rfl
theorem fv_stood : Try.prog.stoodInHeld 61 = false := by kernel_rfl
theorem fv_guard : Try.prog.eqGuardType Try.prog.depth 61 = false := by kernel_rfl
theorem lb_fields : (Try.prog.fieldsOf 59).toList.map (fun f => (f.name, f.type, f.offset)) = [("num", 3, 0), ("name", 9, 1)] := by kernel_rfl
theorem lb_under : Try.prog.underlying 59 = some (.struct (Try.prog.fieldsOf 59)) := by kernel_rfl
theorem lb_stood : Try.prog.stoodInHeld 59 = false := by kernel_rfl
theorem lb_size : (Try.prog.info? 59).map (·.size) = some 2 := by kernel_rfl
theorem fv_size : (Try.prog.info? 61).map (·.size) = some 7 := by kernel_rfl
theorem fv_one (a : FV) : a.cells.all (·.oneCell') = true := by simp [FV.cells, Value.oneCell']

theorem partX_int {t : TypeId} {k : IntKind} {cs : Array Value} {o : Nat} {v : Value} (ht : Try.prog.underlying t = some (.int k)) (hc : cs[o]? = some v) (w : World) : (part t cs o).run Try.prog w = .ok v w := by
  unfold part
  have ha : (isAgg t).run Try.prog w = .ok false w := by
    unfold isAgg
    rw [Sem.run_bind, run_underlying ht w]
    rfl
  simp [Sem.run_bind, ha, hc]
theorem partX_str {t : TypeId} {cs : Array Value} {o : Nat} {v : Value} (ht : Try.prog.underlying t = some .string) (hc : cs[o]? = some v) (w : World) : (part t cs o).run Try.prog w = .ok v w := by
  unfold part
  have ha : (isAgg t).run Try.prog w = .ok false w := by
    unfold isAgg
    rw [Sem.run_bind, run_underlying ht w]
    rfl
  simp [Sem.run_bind, ha, hc]
theorem partX_lb {cs : Array Value} {o : Nat} (w : World) : (part 59 cs o).run Try.prog w = .ok (.agg (cs.extract o (o + 2))) w := by
  unfold part
  have ha : (isAgg 59).run Try.prog w = .ok true w := by
    unfold isAgg
    rw [Sem.run_bind, run_underlying lb_under w]
    rfl
  simp [Sem.run_bind, ha]

theorem eqX_step {d : Nat} {xs ys : Array Value} {f : Field} {fs : List Field} {a b : Value} {q : Bool} {w : World} (hn : f.name ≠ "_") (hx : (part f.type xs f.offset).run Try.prog w = .ok a w) (hy : (part f.type ys f.offset).run Try.prog w = .ok b w) (he : (Op.equalIn (d + 1) f.type a b).run Try.prog w = .ok q w) :
    (Op.eqFields (d + 1) xs ys (f :: fs)).run Try.prog w = if q = true then (Op.eqFields (d + 1) xs ys fs).run Try.prog w else .ok false w := by
  have e : Op.eqFields (d + 1) xs ys (f :: fs) = if f.name ≠ "_" then (do
      let a ← part f.type xs f.offset
      let b ← part f.type ys f.offset
      let r ← Op.equalIn (d + 1) f.type a b
      if (!r) = true then pure false else Op.eqFields (d + 1) xs ys fs) else Op.eqFields (d + 1) xs ys fs := rfl
  rw [e, if_pos hn]
  simp only [Sem.run_bind, hx, hy, he, Result.andThen_ok]
  cases q <;> simp [Sem.run_pure]
theorem eqX_int {d : Nat} {xs ys : Array Value} {f : Field} {fs : List Field} {k k2 : IntKind} {a b : Int} (hn : f.name ≠ "_") (ht : Try.prog.underlying f.type = some (.int k)) (hx : xs[f.offset]? = some (.int k2 a)) (hy : ys[f.offset]? = some (.int k2 b)) (w : World) :
    (Op.eqFields (d + 1) xs ys (f :: fs)).run Try.prog w = if (a == b) = true then (Op.eqFields (d + 1) xs ys fs).run Try.prog w else .ok false w :=
  eqX_step hn (partX_int ht hx w) (partX_int ht hy w) (by simp [Op.equalIn, run_underlying ht])
theorem eqX_str {d : Nat} {xs ys : Array Value} {f : Field} {fs : List Field} {a b : ByteArray} (hn : f.name ≠ "_") (ht : Try.prog.underlying f.type = some .string) (hx : xs[f.offset]? = some (.string a)) (hy : ys[f.offset]? = some (.string b)) (w : World) :
    (Op.eqFields (d + 1) xs ys (f :: fs)).run Try.prog w = if (a.toList == b.toList) = true then (Op.eqFields (d + 1) xs ys fs).run Try.prog w else .ok false w :=
  eqX_step hn (partX_str ht hx w) (partX_str ht hy w) (run_equalIn_string w d f.type a b ht)

theorem beqX {α : Type} [BEq α] [LawfulBEq α] [DecidableEq α] (a b : α) : (a == b) = decide (a = b) := by
  by_cases h : a = b
  · subst h; simp
  · simp [h]
theorem ifX {p q : Prop} [Decidable p] [Decidable q] {w : World} {b : Bool} (hb : b = decide p) {r : Result Bool} (hr : r = .ok (decide q) w) : (if b = true then r else .ok false w) = .ok (decide (p ∧ q)) w := by
  subst hb hr
  by_cases h : p
  · simp [h]
  · simp [h]

/-- a name and a number compared -/
theorem eq_lbs (d : Nat) (m m' : Int) (s s' : List UInt8) (w : World) : (Op.equalIn (d + 2) 59 (lbV m s) (lbV m' s')).run Try.prog w = .ok (decide (m = m' ∧ s = s')) w := by
  have key : ∀ fs : List Field, fs.map (fun f => (f.name, f.type, f.offset)) = [("num", 3, 0), ("name", 9, 1)] →
      (Op.eqFields (d + 1) #[.int .i64 m, .string (bs s)] #[.int .i64 m', .string (bs s')] fs).run Try.prog w = .ok (decide (m = m' ∧ s = s')) w := by
    intro fs h
    obtain ⟨f1, r1, rfl, e1, h⟩ := List.map_eq_cons_iff.1 h
    obtain ⟨f2, r2, rfl, e2, h⟩ := List.map_eq_cons_iff.1 h
    obtain rfl := List.map_eq_nil_iff.1 h
    simp only [Prod.mk.injEq] at e1 e2
    obtain ⟨n1, t1, o1⟩ := e1
    obtain ⟨n2, t2, o2⟩ := e2
    have hnil : (Op.eqFields (d + 1) #[.int .i64 m, .string (bs s)] #[.int .i64 m', .string (bs s')] []).run Try.prog w = .ok (decide True) w := by simp [Op.eqFields, Sem.run_pure]
    rw [eqX_int (a := m) (b := m') (by rw [n1]; decide) (by rw [t1]; exact Try.underlying3) (by rw [o1]; rfl) (by rw [o1]; rfl),
      eqX_str (a := bs s) (b := bs s') (by rw [n2]; decide) (by rw [t2]; exact Try.underlying9) (by rw [o2]; rfl) (by rw [o2]; rfl), bs_list9, bs_list9]
    refine (ifX (p := m = m') (beqX _ _) (ifX (p := s = s') (q := True) (beqX _ _) hnil)).trans ?_
    congr 1
    simp
  unfold lbV
  rw [run_equalIn_struct w (d + 1) _ _ _ lb_under lb_stood]
  exact key _ lb_fields

theorem eq_fvs (d : Nat) (a b : FV) (w : World) : ∀ fs : List Field, fs.map (fun f => (f.name, f.type, f.offset)) = [("kind", 3, 0), ("op", 3, 1), ("label", 59, 2), ("args", 3, 4), ("body", 3, 5), ("otherwise", 3, 6)] →
    (Op.eqFields (d + 2) a.cells b.cells fs).run Try.prog w = .ok (decide (a = b)) w := by
  intro fs h
  obtain ⟨f1, r1, rfl, e1, h⟩ := List.map_eq_cons_iff.1 h
  obtain ⟨f2, r2, rfl, e2, h⟩ := List.map_eq_cons_iff.1 h
  obtain ⟨f3, r3, rfl, e3, h⟩ := List.map_eq_cons_iff.1 h
  obtain ⟨f4, r4, rfl, e4, h⟩ := List.map_eq_cons_iff.1 h
  obtain ⟨f5, r5, rfl, e5, h⟩ := List.map_eq_cons_iff.1 h
  obtain ⟨f6, r6, rfl, e6, h⟩ := List.map_eq_cons_iff.1 h
  obtain rfl := List.map_eq_nil_iff.1 h
  simp only [Prod.mk.injEq] at e1 e2 e3 e4 e5 e6
  obtain ⟨n1, t1, o1⟩ := e1
  obtain ⟨n2, t2, o2⟩ := e2
  obtain ⟨n3, t3, o3⟩ := e3
  obtain ⟨n4, t4, o4⟩ := e4
  obtain ⟨n5, t5, o5⟩ := e5
  obtain ⟨n6, t6, o6⟩ := e6
  have hnil : (Op.eqFields (d + 2) a.cells b.cells []).run Try.prog w = .ok (decide True) w := by simp [Op.eqFields, Sem.run_pure]
  have hpa : ∀ x : FV, (part f3.type x.cells f3.offset).run Try.prog w = .ok (lbV x.num x.name) w := fun x => by
    rw [t3, o3, partX_lb]
    rfl
  rw [eqX_int (a := a.kind) (b := b.kind) (by rw [n1]; decide) (by rw [t1]; exact Try.underlying3) (by rw [o1]; rfl) (by rw [o1]; rfl),
    eqX_int (a := a.op) (b := b.op) (by rw [n2]; decide) (by rw [t2]; exact Try.underlying3) (by rw [o2]; rfl) (by rw [o2]; rfl),
    eqX_step (q := decide (a.num = b.num ∧ a.name = b.name)) (by rw [n3]; decide) (hpa a) (hpa b) (by rw [t3]; exact eq_lbs d _ _ _ _ w),
    eqX_int (a := a.args) (b := b.args) (by rw [n4]; decide) (by rw [t4]; exact Try.underlying3) (by rw [o4]; rfl) (by rw [o4]; rfl),
    eqX_int (a := a.body) (b := b.body) (by rw [n5]; decide) (by rw [t5]; exact Try.underlying3) (by rw [o5]; rfl) (by rw [o5]; rfl),
    eqX_int (a := a.els) (b := b.els) (by rw [n6]; decide) (by rw [t6]; exact Try.underlying3) (by rw [o6]; rfl) (by rw [o6]; rfl)]
  refine (ifX (p := a.kind = b.kind) (beqX _ _) (ifX (p := a.op = b.op) (beqX _ _) (ifX (p := a.num = b.num ∧ a.name = b.name) rfl (ifX (p := a.args = b.args) (beqX _ _) (ifX (p := a.body = b.body) (beqX _ _) (ifX (p := a.els = b.els) (q := True) (beqX _ _) hnil)))))).trans ?_
  congr 1
  obtain ⟨a1, a2, a3, a4, a5, a6, a7⟩ := a
  obtain ⟨b1, b2, b3, b4, b5, b6, b7⟩ := b
  simp only [FV.mk.injEq, and_true, and_assoc]

theorem run_eql_fv (a b : FV) (w : World) : (binOp .eql 61 a.val b.val).run Try.prog w = .ok (.bool (decide (a = b))) w := by
  unfold FV.val
  rw [run_eql_struct, run_equalIn_struct w 9999 _ _ _ fv_under fv_stood, eq_fvs 9997 a b w _ fv_fields]
  rfl
theorem run_neq_fv (a b : FV) (w : World) : (binOp .neq 61 a.val b.val).run Try.prog w = .ok (.bool (!decide (a = b))) w := by
  unfold FV.val
  rw [run_neq_struct, run_equalIn_struct w 9999 _ _ _ fv_under fv_stood, eq_fvs 9997 a b w _ fv_fields]
  rfl
theorem guard_fv (op : BinOp) (x y : Operand) (a b : FV) (w : World) : (eqGuard op 61 x y a.val b.val).run Try.prog w = .ok () w := run_eqGuard_agg w op _ x y _ _ fv_guard

/-- the fields of an expression, of a statement -/
def EL.fv (e : EL) : FV := ⟨e.kind, e.op, e.num, e.name, e.n, 0, 0⟩
def SL.fv (s : SL) : FV := ⟨s.kind, 0, s.num, s.name, s.n, s.n1, s.n2⟩

set_option maxRecDepth 100000 in
set_option maxHeartbeats 6400000 in
theorem texprFields_any (e : EL) (w : World) : Calls Try.prog 40 #[eVal e] w fun f w' => f = .returned e.fv.val ∧ Below w.heap.size w w' := by
  obtain ⟨k, o, m, s, A, n, c, es⟩ := e
  show Calls Try.prog _ #[.agg #[.int .i64 k, .int .i64 o, .int .i64 m, .string (bs s), .slice A n c]] w fun f w' => f = .returned (.agg #[.int .i64 k, .int .i64 o, .int .i64 m, .string (bs s), .int .i64 n, .int .i64 0, .int .i64 0]) ∧ Below w.heap.size w w'
  have HK := Lib.hid (Blk.new_at (w.alloc (.cells #[.int .i64 k, .int .i64 o, .int .i64 m, .string (bs s), .slice A n c] 24)) 61 #[.int .i64 0, .int .i64 0, .int .i64 0, .string ⟨#[]⟩, .int .i64 0, .int .i64 0, .int .i64 0] (w.heap.size + 1) (by simp))
  go_enter Try.func40, Try.ntmps40
  go_wp2_with (refine wpList_store_row rfl 61 _ _ rfl (w.heap.size + 1) #[.int .i64 k, .int .i64 o, .int .i64 m, .string (bs s), .int .i64 n, .int .i64 0, .int .i64 0] rfl rfl _ _ HK.out fv_size rfl (by simp [Value.oneCell']) ?_)
  (try simp only [Exit.inBlock, Exit.then]); refine bodyPost_ret (results_cell_row rfl _ _ _ _ _ _ _ rfl (setRow_heap _ _ _ _ _ _ HK.out) Try.underlying61 rfl (by kernel_rfl)) rfl ?_
  exact ⟨rfl, below_setRow (((Below.refl _ _).alloc (Nat.le_refl _) _).alloc (by simp) _) (by omega) _⟩

set_option maxRecDepth 100000 in
set_option maxHeartbeats 6400000 in
theorem tstmtFields_any (s : SL) (w : World) : Calls Try.prog 68 #[sVal s] w fun f w' => f = .returned s.fv.val ∧ Below w.heap.size w w' := by
  obtain ⟨k, m, s, A, n, c, es, A1, n1, c1, bo, A2, n2, c2, el⟩ := s
  show Calls Try.prog _ #[.agg #[.int .i64 k, .int .i64 m, .string (bs s), .slice A n c, .slice A1 n1 c1, .slice A2 n2 c2]] w fun f w' => f = .returned (.agg #[.int .i64 k, .int .i64 0, .int .i64 m, .string (bs s), .int .i64 n, .int .i64 n1, .int .i64 n2]) ∧ Below w.heap.size w w'
  have HK := Lib.hid (Blk.new_at (w.alloc (.cells #[.int .i64 k, .int .i64 m, .string (bs s), .slice A n c, .slice A1 n1 c1, .slice A2 n2 c2] 47)) 61 #[.int .i64 0, .int .i64 0, .int .i64 0, .string ⟨#[]⟩, .int .i64 0, .int .i64 0, .int .i64 0] (w.heap.size + 1) (by simp))
  go_enter Try.func68, Try.ntmps68
  go_wp2_with (refine wpList_store_row rfl 61 _ _ rfl (w.heap.size + 1) #[.int .i64 k, .int .i64 0, .int .i64 m, .string (bs s), .int .i64 n, .int .i64 n1, .int .i64 n2] rfl rfl _ _ HK.out fv_size rfl (by simp [Value.oneCell']) ?_)
  (try simp only [Exit.inBlock, Exit.then]); refine bodyPost_ret (results_cell_row rfl _ _ _ _ _ _ _ rfl (setRow_heap _ _ _ _ _ _ HK.out) Try.underlying61 rfl (by kernel_rfl)) rfl ?_
  exact ⟨rfl, below_setRow (((Below.refl _ _).alloc (Nat.le_refl _) _).alloc (by simp) _) (by omega) _⟩

end Go.Proofs.Ytdmpadonnobeaaa
