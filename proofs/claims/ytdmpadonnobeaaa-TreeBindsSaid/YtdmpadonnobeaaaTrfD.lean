/- Contracts of slices.IndexFunc, slices.ContainsFunc at any function value; the language of a source, of a book: argsCheck and its closures. -/
import Derived.Test.YtdmpadonnobeaaaTreX
import Derived.Test.YtdmpadonnobeaaaTreK
import Derived.Test.YtdmpadonnobeaaaEnt
import Derived.Test.YtdmpadonnobeaaaTrfA
import Derived.Test.YtdmpadonnobeaaaTreY
namespace Go.Proofs.Ytdmpadonnobeaaa
open Go.RowKit
set_option linter.unusedVariables false

/-- an index, from 0 on if there is one -/
def IdxOut (b : Bool) (w : World) (f : Ending) (w' : World) : Prop := ∃ i : Int, f = .returned (.int .i64 i) ∧ decide (0 ≤ i) = b ∧ Below w.heap.size w w'

theorem any_no {α : Type} {p : α → Bool} {l : List α} {d : α} (h : ∀ j, j < l.length → p (l[j]?.getD d) = false) : l.any p = false := by
  cases ha : l.any p with
  | false => rfl
  | true =>
    obtain ⟨x, hx, hp⟩ := List.any_eq_true.1 ha
    obtain ⟨j, hj, rfl⟩ := List.mem_iff_getElem.1 hx
    have := h j hj
    rw [List.getElem?_eq_getElem hj] at this
    change p l[j] = false at this
    rw [this] at hp
    cases hp
theorem any_yes {α : Type} {p : α → Bool} {l : List α} {d : α} {j : Nat} (hj : j < l.length) (h : p (l[j]?.getD d) = true) : l.any p = true := by
  rw [List.getElem?_eq_getElem hj] at h
  exact List.any_eq_true.2 ⟨_, List.getElem_mem hj, h⟩

set_option maxRecDepth 100000 in
set_option maxHeartbeats 6400000 in
theorem tIndexE_any (p : EL → Bool) (k : FuncId) (cs : Array Value) (hk : Enters k) (es : List EL) (A : Option Addr) (n c : Nat) (w0 w : World) (hw : Below w0.heap.size w0 w) (hF : Hid (∀ W : World, Below w0.heap.size w0 W → ∀ x ∈ es, x.In W W.heap.size → Calls Try.prog k (#[eVal x] ++ cs) W fun f w' => f = .returned (.bool (p x)) ∧ Below W.heap.size W w')) (hA : RowE w w.heap.size A n es) (hAi : EL.Ins w w.heap.size es) :
    Calls Try.prog 93 #[.slice A n c, .func (.func k) #[] cs] w (IdxOut (es.any p) w) := by
  have hn := hA.1
  have hn9 := hA.2.1
  have HL := Lib.hid hn
  have HR := Lib.hid hA
  have HA := Lib.hid hAi
  have HW := Lib.hid hw
  have hkr := hk.run
  clear hn hA hAi hw hk
  go_enter Try.func93, Try.ntmps93
  go_wp2_with fail
  go_loopw [8] (fun vj wr => ∃ j : Nat, j ≤ n ∧ vj = .int .i64 j ∧ Hid (∀ i, i < j → p (es[i]?.getD nilE) = false) ∧ Hid (Below w.heap.size w wr)) (fun vj _ => n - (intOf vj).toNat)
  case atStart => exact ⟨0, Nat.zero_le _, rfl, Lib.hid (fun i hi => absurd hi (Nat.not_lt_zero _)), Lib.hid (Below.refl _ _)⟩
  case round =>
    obtain ⟨j, hj, rfl, HSO, HBR⟩ := hrel
    by_cases hlt : j < n
    ·
      have hxjl : j < es.length := by rw [HL.out]; exact hlt
      obtain ⟨xad, rfl, xab, xc⟩ := row_at (HR.out.below HBR.out) hlt
      have hx := HA.out.at hxjl
      have hxmem : (es[j]?.getD nilE) ∈ es := by rw [List.getElem?_eq_getElem hxjl]; exact List.getElem_mem _
      obtain ⟨x, hxe⟩ : ∃ x, x = es[j]?.getD nilE := ⟨_, rfl⟩
      obtain ⟨a0, a1, a2, a3, a4⟩ := xc x hxe
      rw [← hxe] at hx hxmem
      have HXx := Lib.hid hx
      have HEx := Lib.hid hxe
      have HMx := Lib.hid hxmem
      obtain ⟨xk, xo, xm, xs, xA, xn, xc', xes⟩ := x
      change wr.cell? (xad.add (j * 5)) = some (.int .i64 xk) at a0
      change wr.cell? ⟨(xad.add (j * 5)).block, (xad.add (j * 5)).off + 1, none⟩ = some (.int .i64 xo) at a1
      change wr.cell? ⟨(xad.add (j * 5)).block, (xad.add (j * 5)).off + 2, none⟩ = some (.int .i64 xm) at a2
      change wr.cell? ⟨(xad.add (j * 5)).block, (xad.add (j * 5)).off + 3, none⟩ = some (.string (bs xs)) at a3
      change wr.cell? ⟨(xad.add (j * 5)).block, (xad.add (j * 5)).off + 4, none⟩ = some (.slice xA xn xc') at a4
      clear xc hxe hx hxmem hxjl

      obtain ⟨q, hq⟩ : ∃ q, q = p (.mk xk xo xm xs xA xn xc' xes) := ⟨_, rfl⟩
      have HQ := Lib.hid hq
      have HC := Lib.hid (hF.out wr (HW.out.trans (HBR.out.mono HW.out.size)) _ HMx.out (EL.In.more HBR.out.size (HXx.out.below HBR.out)))
      clear hq
      go_wp2_with fail
      refine HC.out.mono ?_
      rintro f w2 ⟨rfl, hb2⟩
      rw [← HQ.out]
      have HBF := Lib.hid (HBR.out.trans (hb2.mono HBR.out.size))
      clear hb2
      cases q with
      | false =>
        have HN : Hid (∀ i, i < j + 1 → p (es[i]?.getD nilE) = false) := Lib.hid (fun i hi => by
          by_cases e : i = j
          · subst e
            rw [← HEx.out]
            exact HQ.out.symm
          · exact HSO.out i (by omega))
        go_wp2_with fail
        go_roundw
        case rel => exact ⟨j + 1, by omega, by go_num, HN, HBF⟩
        case measure => simp [intOf]; omega
      | true =>
        have HE : Hid (es.any p = true) := Lib.hid (any_yes (d := nilE) (j := j) (by rw [HL.out]; exact hlt) (by rw [← HEx.out]; exact HQ.out.symm))
        go_wp2_with fail
        go_ret
        exact ⟨(j : Int), rfl, by rw [HE.out]; simp, HBF.out⟩
    · obtain rfl : j = n := by omega
      have HE : Hid (es.any p = false) := Lib.hid (any_no (d := nilE) (fun i hi => HSO.out i (by rw [HL.out] at hi; exact hi)))
      go_wp2_with fail
      go_ret
      exact ⟨-1, rfl, by rw [HE.out]; rfl, HBR.out⟩

set_option maxRecDepth 100000 in
set_option maxHeartbeats 6400000 in
theorem tContainsE_any (p : EL → Bool) (k : FuncId) (cs : Array Value) (hk : Enters k) (es : List EL) (A : Option Addr) (n c : Nat) (w0 w : World) (hw : Below w0.heap.size w0 w) (hF : Hid (∀ W : World, Below w0.heap.size w0 W → ∀ x ∈ es, x.In W W.heap.size → Calls Try.prog k (#[eVal x] ++ cs) W fun f w' => f = .returned (.bool (p x)) ∧ Below W.heap.size W w')) (hA : RowE w w.heap.size A n es) (hAi : EL.Ins w w.heap.size es) :
    Calls Try.prog 77 #[.slice A n c, .func (.func k) #[] cs] w fun f w' => f = .returned (.bool (es.any p)) ∧ Below w.heap.size w w' := by
  have HC := Lib.hid (tIndexE_any p k cs hk es A n c w0 w hw hF hA hAi)
  obtain ⟨q, hq⟩ : ∃ q, q = es.any p := ⟨_, rfl⟩
  have HQ := Lib.hid hq
  rw [← hq]
  clear hk hw hA hAi hF hq
  go_enter Try.func77, Try.ntmps77
  go_wp2_with fail
  refine HC.out.mono ?_
  rintro f w2 ⟨i, rfl, hi, hb2⟩
  rw [← HQ.out] at hi
  have HI := Lib.hid hi
  clear hi
  go_wp2_with fail
  go_ret
  exact ⟨by rw [← HI.out]; rfl, hb2⟩

set_option maxRecDepth 100000 in
set_option maxHeartbeats 6400000 in
theorem tIndexS_any (p : SL → Bool) (k : FuncId) (cs : Array Value) (hk : Enters k) (es : List SL) (A : Option Addr) (n c : Nat) (w0 w : World) (hw : Below w0.heap.size w0 w) (hF : Hid (∀ W : World, Below w0.heap.size w0 W → ∀ x ∈ es, x.In W W.heap.size → Calls Try.prog k (#[sVal x] ++ cs) W fun f w' => f = .returned (.bool (p x)) ∧ Below W.heap.size W w')) (hA : RowS6 w w.heap.size A n es) (hAi : SL.Ins w w.heap.size es) :
    Calls Try.prog 82 #[.slice A n c, .func (.func k) #[] cs] w (IdxOut (es.any p) w) := by
  have hn := hA.1
  have hn9 := hA.2.1
  have HL := Lib.hid hn
  have HR := Lib.hid hA
  have HA := Lib.hid hAi
  have HW := Lib.hid hw
  have hkr := hk.run
  clear hn hA hAi hw hk
  go_enter Try.func82, Try.ntmps82
  go_wp2_with fail
  go_loopw [8] (fun vj wr => ∃ j : Nat, j ≤ n ∧ vj = .int .i64 j ∧ Hid (∀ i, i < j → p (es[i]?.getD nilS) = false) ∧ Hid (Below w.heap.size w wr)) (fun vj _ => n - (intOf vj).toNat)
  case atStart => exact ⟨0, Nat.zero_le _, rfl, Lib.hid (fun i hi => absurd hi (Nat.not_lt_zero _)), Lib.hid (Below.refl _ _)⟩
  case round =>
    obtain ⟨j, hj, rfl, HSO, HBR⟩ := hrel
    by_cases hlt : j < n
    ·
      have hxjl : j < es.length := by rw [HL.out]; exact hlt
      obtain ⟨xad, rfl, xab, xc⟩ := rowS_at (HR.out.below HBR.out) hlt
      have hx := HA.out.at hxjl
      have hxmem : (es[j]?.getD nilS) ∈ es := by rw [List.getElem?_eq_getElem hxjl]; exact List.getElem_mem _
      obtain ⟨x, hxe⟩ : ∃ x, x = es[j]?.getD nilS := ⟨_, rfl⟩
      obtain ⟨a0, a1, a2, a3, a4, a5⟩ := xc x hxe
      rw [← hxe] at hx hxmem
      have HXx := Lib.hid hx
      have HEx := Lib.hid hxe
      have HMx := Lib.hid hxmem
      obtain ⟨xk, xm, xs, xA, xn, xc', xes, xA1, xn1, xc1, xbo, xA2, xn2, xc2, xel⟩ := x
      change wr.cell? (xad.add (j * 6)) = some (.int .i64 xk) at a0
      change wr.cell? ⟨(xad.add (j * 6)).block, (xad.add (j * 6)).off + 1, none⟩ = some (.int .i64 xm) at a1
      change wr.cell? ⟨(xad.add (j * 6)).block, (xad.add (j * 6)).off + 2, none⟩ = some (.string (bs xs)) at a2
      change wr.cell? ⟨(xad.add (j * 6)).block, (xad.add (j * 6)).off + 3, none⟩ = some (.slice xA xn xc') at a3
      change wr.cell? ⟨(xad.add (j * 6)).block, (xad.add (j * 6)).off + 4, none⟩ = some (.slice xA1 xn1 xc1) at a4
      change wr.cell? ⟨(xad.add (j * 6)).block, (xad.add (j * 6)).off + 5, none⟩ = some (.slice xA2 xn2 xc2) at a5
      clear xc hxe hx hxmem hxjl

      obtain ⟨q, hq⟩ : ∃ q, q = p (.mk xk xm xs xA xn xc' xes xA1 xn1 xc1 xbo xA2 xn2 xc2 xel) := ⟨_, rfl⟩
      have HQ := Lib.hid hq
      have HC := Lib.hid (hF.out wr (HW.out.trans (HBR.out.mono HW.out.size)) _ HMx.out (SL.In.more HBR.out.size (HXx.out.below HBR.out)))
      clear hq
      go_wp2_with fail
      refine HC.out.mono ?_
      rintro f w2 ⟨rfl, hb2⟩
      rw [← HQ.out]
      have HBF := Lib.hid (HBR.out.trans (hb2.mono HBR.out.size))
      clear hb2
      cases q with
      | false =>
        have HN : Hid (∀ i, i < j + 1 → p (es[i]?.getD nilS) = false) := Lib.hid (fun i hi => by
          by_cases e : i = j
          · subst e
            rw [← HEx.out]
            exact HQ.out.symm
          · exact HSO.out i (by omega))
        go_wp2_with fail
        go_roundw
        case rel => exact ⟨j + 1, by omega, by go_num, HN, HBF⟩
        case measure => simp [intOf]; omega
      | true =>
        have HE : Hid (es.any p = true) := Lib.hid (any_yes (d := nilS) (j := j) (by rw [HL.out]; exact hlt) (by rw [← HEx.out]; exact HQ.out.symm))
        go_wp2_with fail
        go_ret
        exact ⟨(j : Int), rfl, by rw [HE.out]; simp, HBF.out⟩
    · obtain rfl : j = n := by omega
      have HE : Hid (es.any p = false) := Lib.hid (any_no (d := nilS) (fun i hi => HSO.out i (by rw [HL.out] at hi; exact hi)))
      go_wp2_with fail
      go_ret
      exact ⟨-1, rfl, by rw [HE.out]; rfl, HBR.out⟩

set_option maxRecDepth 100000 in
set_option maxHeartbeats 6400000 in
theorem tContainsS_any (p : SL → Bool) (k : FuncId) (cs : Array Value) (hk : Enters k) (es : List SL) (A : Option Addr) (n c : Nat) (w0 w : World) (hw : Below w0.heap.size w0 w) (hF : Hid (∀ W : World, Below w0.heap.size w0 W → ∀ x ∈ es, x.In W W.heap.size → Calls Try.prog k (#[sVal x] ++ cs) W fun f w' => f = .returned (.bool (p x)) ∧ Below W.heap.size W w')) (hA : RowS6 w w.heap.size A n es) (hAi : SL.Ins w w.heap.size es) :
    Calls Try.prog 60 #[.slice A n c, .func (.func k) #[] cs] w fun f w' => f = .returned (.bool (es.any p)) ∧ Below w.heap.size w w' := by
  have HC := Lib.hid (tIndexS_any p k cs hk es A n c w0 w hw hF hA hAi)
  obtain ⟨q, hq⟩ : ∃ q, q = es.any p := ⟨_, rfl⟩
  have HQ := Lib.hid hq
  rw [← hq]
  clear hk hw hA hAi hF hq
  go_enter Try.func60, Try.ntmps60
  go_wp2_with fail
  refine HC.out.mono ?_
  rintro f w2 ⟨i, rfl, hi, hb2⟩
  rw [← HQ.out] at hi
  have HI := Lib.hid hi
  clear hi
  go_wp2_with fail
  go_ret
  exact ⟨by rw [← HI.out]; rfl, hb2⟩

/-- a language as the program holds it: the kinds of texts and of calls, what tells the name of a statement, what tells whether an expression, a statement may be -/
structure LG where
  tx : Int
  cl : Int
  kN : FuncId
  kE : FuncId
  kS : FuncId
  F : Array Value
def LG.cells (G : LG) : Array Value := #[.int .i64 G.tx, .int .i64 G.cl, .func (.func G.kN) #[] #[], .func (.func G.kE) G.F #[], .func (.func G.kS) G.F #[]]
def LG.val (G : LG) : Value := .agg G.cells
theorem lg_size : (Try.prog.info? 51).map (·.size) = some 5 := by kernel_rfl

/-- a text or a title -/
def sayB (tx : Int) (e : EL) : Bool := decide (e.kind = tx) || decide (e.kind = 13)
/-- may an expression be, of that depth at most -/
def vE (X : EL → Bool) (tx : Int) : Nat → EL → Bool
  | 0, _ => false
  | d + 1, e => decide (e.fv = e.form) && X e && e.args.all (fun a => !sayB tx a && vE X tx d a)
def inE (X : EL → Bool) (tx : Int) (said : Bool) (d : Nat) (a : EL) : Bool := (said || !sayB tx a) && vE X tx d a
theorem vE_succ (X : EL → Bool) (tx : Int) (d : Nat) (e : EL) : vE X tx (d + 1) e = (decide (e.fv = e.form) && X e && e.args.all (inE X tx false d)) := by
  unfold vE inE
  rfl

/-- what validExpr does at a depth -/
def VEAt (w0 : World) (G : LG) (X : EL → Bool) (d : Nat) : Prop := ∀ (e : EL) (w : World), Below w0.heap.size w0 w → e.In w w.heap.size →
  Calls Try.prog 33 #[G.val, eVal e, .int .i64 (d : Int)] w fun f w' => f = .returned (.bool (vE X G.tx d e)) ∧ Below w.heap.size w w'

/-- the closures of argsCheck: where what they captured lies -/
structure Ck (w : World) (G : LG) (dp : Int) (said : Bool) (bc bg bs bd : Nat) : Prop where
  g : Blk w bg 51 G.cells
  s : Blk w bs 4 #[.bool said]
  d : Blk w bd 3 #[.int .i64 dp]
  c : Blk w bc 27 #[.func (.func 75) #[] #[.pointer (some ⟨bg, 0, none⟩), .pointer (some ⟨bs, 0, none⟩), .pointer (some ⟨bd, 0, none⟩)]]
theorem Ck.below {w w' : World} {G : LG} {dp : Int} {said : Bool} {bc bg bs bd : Nat} (h : Ck w G dp said bc bg bs bd) (hb : Below w.heap.size w w') : Ck w' G dp said bc bg bs bd :=
  ⟨h.g.below hb h.g.lt, h.s.below hb h.s.lt, h.d.below hb h.d.lt, h.c.below hb h.c.lt⟩

/-- what argsCheck hands back -/
def CkOut (G : LG) (dp : Int) (said : Bool) (w : World) (f : Ending) (w' : World) : Prop :=
  ∃ bc bg bs bd : Nat, f = .returned (.func (.func 76) #[] #[.pointer (some ⟨bc, 0, none⟩)]) ∧ Ck w' G dp said bc bg bs bd ∧ Below w.heap.size w w'

theorem entersC1 : Enters 75 := ⟨_, Try.func75, by kernel_rfl, by kernel_rfl⟩

set_option maxRecDepth 100000 in
set_option maxHeartbeats 1600000 in
theorem targsCheck_any (G : LG) (dp : Int) (said : Bool) (w : World) : Calls Try.prog 52 #[G.val, .int .i64 dp, .bool said] w (CkOut G dp said w) := by
  have hmf : ∀ (fn : Fn) (first cap : Array Value) (w : World), (Instr.makeFunc fn first cap).run Try.prog w = .ok (.func fn first cap) w := fun _ _ _ _ => rfl
  obtain ⟨cs, hcs⟩ : ∃ cs, cs = G.cells := ⟨_, rfl⟩
  have HCS := Lib.hid hcs
  unfold LG.val
  rw [← hcs]
  clear hcs
  go_enter Try.func52, Try.ntmps52
  go_wp2_with fail
  go_ret
  refine ⟨w.heap.size + 1 + 1 + 1, w.heap.size, w.heap.size + 1 + 1, w.heap.size + 1, rfl, ⟨?_, ?_, ?_, ?_⟩, ?_⟩
  · rw [← HCS.out]
    exact (((Blk.new w _ _).alloc _).alloc _).alloc _
  · exact (Blk.new_at _ _ _ (w.heap.size + 1 + 1) (by simp)).alloc _
  · exact ((Blk.new_at _ _ _ (w.heap.size + 1) (by simp)).alloc _).alloc _
  · exact Blk.new_at _ _ _ (w.heap.size + 1 + 1 + 1) (by simp)
  · exact ((((Below.refl _ _).alloc (Nat.le_refl _) _).alloc (by simp) _).alloc (by simp; omega) _).alloc (by simp; omega) _

set_option maxRecDepth 100000 in
set_option maxHeartbeats 6400000 in
theorem targs1_any (w0 : World) (G : LG) (X : EL → Bool) (d : Nat) (hV : VEAt w0 G X d) (said : Bool) (bc bg bs' bd : Nat) (x : EL) (w : World) (hck : Ck w G (d : Int) said bc bg bs' bd) (hw : Below w0.heap.size w0 w) (hin : x.In w w.heap.size) :
    Calls Try.prog 75 #[eVal x, .pointer (some ⟨bg, 0, none⟩), .pointer (some ⟨bs', 0, none⟩), .pointer (some ⟨bd, 0, none⟩)] w fun f w' => f = .returned (.bool (!inE X G.tx said d x)) ∧ Below w.heap.size w w' := by
  obtain ⟨q, hq⟩ : ∃ q, q = vE X G.tx d x := ⟨_, rfl⟩
  have HQ := Lib.hid hq
  have hres : inE X G.tx said d x = ((said || !sayB G.tx x) && q) := by rw [hq]; rfl
  rw [hres]
  obtain ⟨tx, cl, kN, kE, kS, F⟩ := G
  have c0 : ∀ o : Obj, (w.alloc o).cell? ⟨bg, 0, none⟩ = some (.int .i64 tx) := fun o => (hck.g.alloc o).cell 0
  have c1 : ∀ o : Obj, (w.alloc o).cell? ⟨bg, 1, none⟩ = some (.int .i64 cl) := fun o => (hck.g.alloc o).cell 1
  have c2 : ∀ o : Obj, (w.alloc o).cell? ⟨bg, 2, none⟩ = some (.func (.func kN) #[] #[]) := fun o => (hck.g.alloc o).cell 2
  have c3 : ∀ o : Obj, (w.alloc o).cell? ⟨bg, 3, none⟩ = some (.func (.func kE) F #[]) := fun o => (hck.g.alloc o).cell 3
  have c4 : ∀ o : Obj, (w.alloc o).cell? ⟨bg, 4, none⟩ = some (.func (.func kS) F #[]) := fun o => (hck.g.alloc o).cell 4
  have c5 : ∀ o : Obj, (w.alloc o).cell? ⟨bs', 0, none⟩ = some (.bool said) := fun o => (hck.s.alloc o).cell 0
  have c6 : ∀ o : Obj, (w.alloc o).cell? ⟨bd, 0, none⟩ = some (.int .i64 (d : Int)) := fun o => (hck.d.alloc o).cell 0
  have HC := Lib.hid (fun (W : World) (hb : Below w.heap.size w W) => hV x W (hw.trans (hb.mono hw.size)) (EL.In.more hb.size (hin.below hb)))
  obtain ⟨xk, xo, xm, xs, xA, xn, xc', xes⟩ := x
  show Calls Try.prog _ #[.agg #[.int .i64 xk, .int .i64 xo, .int .i64 xm, .string (bs xs), .slice xA xn xc'], .pointer (some ⟨bg, 0, none⟩), .pointer (some ⟨bs', 0, none⟩), .pointer (some ⟨bd, 0, none⟩)] w fun f w' => f = .returned (.bool (!((said || !(decide (xk = tx) || decide (xk = 13))) && q))) ∧ Below w.heap.size w w'
  obtain ⟨W, hW⟩ : ∃ W, W = w.alloc (.cells #[.int .i64 xk, .int .i64 xo, .int .i64 xm, .string (bs xs), .slice xA xn xc'] 24) := ⟨_, rfl⟩
  have HBW : Hid (Below w.heap.size w W) := Lib.hid (by rw [hW]; exact (Below.refl _ _).alloc (Nat.le_refl _) _)
  clear hq hres hck hw hin hV
  by_cases h1 : xk = tx
  · have t1 : (xk == tx) = true := by rw [beq_iff_eq]; exact h1
    rw [decide_eq_true h1, Bool.true_or, Bool.not_true, Bool.or_false]
    clear h1
    cases said with
    | false =>
      go_enter Try.func75, Try.ntmps75
      go_wp2_with fail
      go_ret
      exact ⟨rfl, by have := HBW.out; rw [hW] at this; exact this⟩

    | true =>
      rw [Bool.true_and]
      go_enter Try.func75, Try.ntmps75
      go_wp2_with fail
      rw [← hW]
      clear hW
      refine (HC.out _ HBW.out).mono ?_
      rintro f w2 ⟨rfl, hb2⟩
      rw [← HQ.out]
      go_wp2_with fail
      go_ret
      exact ⟨rfl, HBW.out.trans (hb2.mono HBW.out.size)⟩

  · have t1 : (xk == tx) = false := by rw [beq_eq_false_iff_ne]; exact h1
    rw [decide_eq_false h1, Bool.false_or]
    clear h1
    by_cases h2 : xk = 13
    · have t2 : (xk == 13) = true := by rw [beq_iff_eq]; exact h2
      rw [decide_eq_true h2, Bool.not_true, Bool.or_false]
      clear h2
      cases said with
      | false =>
        go_enter Try.func75, Try.ntmps75
        go_wp2_with fail
        go_ret
        exact ⟨rfl, by have := HBW.out; rw [hW] at this; exact this⟩

      | true =>
        rw [Bool.true_and]
        go_enter Try.func75, Try.ntmps75
        go_wp2_with fail
        rw [← hW]
        clear hW
        refine (HC.out _ HBW.out).mono ?_
        rintro f w2 ⟨rfl, hb2⟩
        rw [← HQ.out]
        go_wp2_with fail
        go_ret
        exact ⟨rfl, HBW.out.trans (hb2.mono HBW.out.size)⟩

    · have t2 : (xk == 13) = false := by rw [beq_eq_false_iff_ne]; exact h2
      rw [decide_eq_false h2, Bool.not_false, Bool.or_true, Bool.true_and]
      clear h2
      go_enter Try.func75, Try.ntmps75
      go_wp2_with fail
      rw [← hW]
      clear hW
      refine (HC.out _ HBW.out).mono ?_
      rintro f w2 ⟨rfl, hb2⟩
      rw [← HQ.out]
      go_wp2_with fail
      go_ret
      exact ⟨rfl, HBW.out.trans (hb2.mono HBW.out.size)⟩

set_option maxRecDepth 100000 in
set_option maxHeartbeats 6400000 in
theorem targs2_any (w0 : World) (G : LG) (X : EL → Bool) (d : Nat) (hV : VEAt w0 G X d) (said : Bool) (bc bg bs' bd : Nat) (es : List EL) (A : Option Addr) (n c : Nat) (w : World) (hck : Ck w G (d : Int) said bc bg bs' bd) (hw : Below w0.heap.size w0 w) (hA : RowE w w.heap.size A n es) (hAi : EL.Ins w w.heap.size es) :
    Calls Try.prog 76 #[.slice A n c, .pointer (some ⟨bc, 0, none⟩)] w fun f w' => f = .returned (.bool (es.all (inE X G.tx said d))) ∧ Below w.heap.size w w' := by
  have HC := Lib.hid (tContainsE_any (fun x => !inE X G.tx said d x) _ #[.pointer (some ⟨bg, 0, none⟩), .pointer (some ⟨bs', 0, none⟩), .pointer (some ⟨bd, 0, none⟩)] entersC1 es A n c w w (Below.refl _ _) (Lib.hid (fun W hb x _ hx => targs1_any w0 G X d hV said bc bg bs' bd x W (hck.below hb) (hw.trans (hb.mono hw.size)) hx)) hA hAi)
  have c0 : w.cell? ⟨bc, 0, none⟩ = some (.func (.func 75) #[] #[.pointer (some ⟨bg, 0, none⟩), .pointer (some ⟨bs', 0, none⟩), .pointer (some ⟨bd, 0, none⟩)]) := hck.c.cell 0
  obtain ⟨q, hq⟩ : ∃ q, q = es.any (fun x => !inE X G.tx said d x) := ⟨_, rfl⟩
  have HQ := Lib.hid hq
  have hres : es.all (inE X G.tx said d) = !q := by
    rw [hq, List.any_eq_not_all_not, Bool.not_not]
    congr 1
    funext x
    rw [Bool.not_not]
  rw [hres]
  clear hq hres hck hw hA hAi hV
  go_enter Try.func76, Try.ntmps76
  go_wp2_with fail
  refine HC.out.mono ?_
  rintro f w2 ⟨rfl, hb2⟩
  rw [← HQ.out]
  go_wp2_with fail
  go_ret
  exact ⟨rfl, hb2⟩

end Go.Proofs.Ytdmpadonnobeaaa
