/- Contracts of the program's hasCall, hasExpr, hasStmt: what an expression, a statement of a book can refer to. -/
import Derived.Test.YtdmpadonnobeaaaTrfC
import Derived.Test.YtdmpadonnobeaaaTreM
namespace Go.Proofs.Ytdmpadonnobeaaa
open Go.RowKit
set_option linter.unusedVariables false

/-- the tables and the number of locals, by value -/
def TV.rcells (T : TV) (loc : Int) : Array Value := #[.int .i64 T.t1, .int .i64 T.t2, .int .i64 T.t3, .int .i64 T.t4, .slice T.S1 T.m1 T.k1, .int .i64 T.fl, .slice T.S2 T.m2 T.k2, .slice T.S3 T.m3 T.k3, .slice T.S4 T.m4 T.k4, .slice T.S5 T.m5 T.k5, .slice T.S6 T.m6 T.k6, .slice T.S7 T.m7 T.k7, .slice T.S8 T.m8 T.k8, .slice T.S9 T.m9 T.k9, .slice T.S10 T.m10 T.k10, .int .i64 loc]
def TV.rt (T : TV) (loc : Int) : Value := .agg (T.rcells loc)
theorem rt_size : (Try.prog.info? 77).map (·.size) = some 16 := by kernel_rfl

/-- is there the function that e calls? -/
def callB (t : TB) (e : EL) : Bool := idxB e.num t.funcs.length && (idxB (t.funcs.getD e.num.toNat 0) t.params.length && decide (t.params.getD (t.funcs.getD e.num.toNat 0).toNat 0 = (e.n : Int)))
/-- an expression of a book, as far as its kind and its number go -/
def bkE (t : TB) (loc : Int) (e : EL) : Bool :=
  if e.kind = 1 then amongB e.num (-32768) 32767
  else if e.kind = 14 then idxB e.num t.globals
  else if e.kind = 15 then idxB e.num loc
  else if e.kind = 16 then idxB e.num t.flags
  else if e.kind = 17 then idxB e.num t.props
  else if e.kind = 18 then callB t e
  else if e.kind = 19 then idxB e.num t.texts
  else decide (e.kind = 4 ∨ e.kind = 5 ∨ e.kind = 6 ∨ e.kind = 10 ∨ e.kind = 11 ∨ e.kind = 12 ∨ e.kind = 13)
/-- a statement of a book, so far -/
def bkS (t : TB) (loc : Int) (s : SL) : Bool :=
  if s.kind = 2 ∨ s.kind = 3 then idxB s.num loc
  else if s.kind = 11 then idxB s.num loc && idxB (s.num + 1) loc
  else if s.kind = 4 then idxB s.num t.props
  else if s.kind = 5 ∨ s.kind = 6 then idxB s.num t.flags
  else if s.kind = 17 ∨ s.kind = 18 then idxB s.num t.daemons
  else if s.kind = 23 then idxB s.num t.globals
  else decide (s.kind = 1 ∨ s.kind = 7 ∨ s.kind = 8 ∨ s.kind = 9 ∨ s.kind = 10 ∨ s.kind = 12 ∨ s.kind = 13 ∨ s.kind = 14 ∨ s.kind = 15 ∨ s.kind = 16 ∨ s.kind = 19 ∨ s.kind = 20 ∨ s.kind = 21 ∨ s.kind = 22)

theorem idx_no {n len : Int} (h : ¬ (0 ≤ n ∧ n < len)) : idxB n len = false := by
  unfold idxB
  rw [Bool.and_eq_false_iff, decide_eq_false_iff_not, decide_eq_false_iff_not]
  omega
theorem idx_yes {n len : Int} (h : 0 ≤ n ∧ n < len) : idxB n len = true := by
  unfold idxB
  rw [decide_eq_true h.1, decide_eq_true h.2]
  rfl

set_option maxRecDepth 100000 in
set_option maxHeartbeats 6400000 in
theorem thasCall_any (T : TV) (loc : Int) (e : EL) (w : World) (hin : T.In w w.heap.size) (hnum : -9223372036854775808 ≤ e.num ∧ e.num ≤ 9223372036854775807) (hen : (e.n : Int) ≤ 9223372036854775807) : Calls Try.prog 86 #[T.rt loc, eVal e] w fun f w' => f = .returned (.bool (callB T.tb e)) ∧ Below w.heap.size w w' := by
  obtain ⟨t1, t2, t3, t4, S1, m1, k1, fl, S2, m2, k2, S3, m3, k3, S4, m4, k4, S5, m5, k5, S6, m6, k6, S7, m7, k7, S8, m8, k8, S9, m9, k9, S10, m10, k10, fs, ps⟩ := T
  obtain ⟨⟨_, _, _, hm7, _, hm9⟩, hf, hp⟩ := hin
  change (m7 : Int) ≤ 9223372036854775807 at hm7
  change (m9 : Int) ≤ 9223372036854775807 at hm9
  change RdI w w.heap.size S7 m7 fs at hf
  change RdI w w.heap.size S9 m9 ps at hp
  obtain ⟨k, o, m, s, A, n, c, es⟩ := e
  change -9223372036854775808 ≤ m ∧ m ≤ 9223372036854775807 at hnum
  change (n : Int) ≤ 9223372036854775807 at hen
  have hfl := hf.1
  have hpl := hp.1
  obtain ⟨r, hr⟩ : ∃ r, r = callB (TB.mk m1 fl m2 m3 m8 fs ps) (.mk k o m s A n c es) := ⟨_, rfl⟩
  have hr2 : r = (idxB m m7 && (idxB (fs.getD m.toNat 0) m9 && decide (ps.getD (fs.getD m.toNat 0).toNat 0 = (n : Int)))) := by rw [hr, ← hfl, ← hpl]; rfl
  show Calls Try.prog _ #[.agg #[.int .i64 t1, .int .i64 t2, .int .i64 t3, .int .i64 t4, .slice S1 m1 k1, .int .i64 fl, .slice S2 m2 k2, .slice S3 m3 k3, .slice S4 m4 k4, .slice S5 m5 k5, .slice S6 m6 k6, .slice S7 m7 k7, .slice S8 m8 k8, .slice S9 m9 k9, .slice S10 m10 k10, .int .i64 loc], .agg #[.int .i64 k, .int .i64 o, .int .i64 m, .string (bs s), .slice A n c]] w fun f w' => f = .returned (.bool (callB (TB.mk m1 fl m2 m3 m8 fs ps) (.mk k o m s A n c es))) ∧ Below w.heap.size w w'
  rw [← hr]
  clear hr
  obtain ⟨W, hW⟩ : ∃ W, W = ((w.alloc (.cells #[.int .i64 t1, .int .i64 t2, .int .i64 t3, .int .i64 t4, .slice S1 m1 k1, .int .i64 fl, .slice S2 m2 k2, .slice S3 m3 k3, .slice S4 m4 k4, .slice S5 m5 k5, .slice S6 m6 k6, .slice S7 m7 k7, .slice S8 m8 k8, .slice S9 m9 k9, .slice S10 m10 k10, .int .i64 loc] 77)).alloc (.cells #[.int .i64 k, .int .i64 o, .int .i64 m, .string (bs s), .slice A n c] 24)) := ⟨_, rfl⟩
  have HBW : Hid (Below w.heap.size w W) := Lib.hid (by rw [hW]; exact ((Below.refl _ _).alloc (Nat.le_refl _) _).alloc (by simp) _)
  have HK : Hid (Blk W w.heap.size 77 #[.int .i64 t1, .int .i64 t2, .int .i64 t3, .int .i64 t4, .slice S1 m1 k1, .int .i64 fl, .slice S2 m2 k2, .slice S3 m3 k3, .slice S4 m4 k4, .slice S5 m5 k5, .slice S6 m6 k6, .slice S7 m7 k7, .slice S8 m8 k8, .slice S9 m9 k9, .slice S10 m10 k10, .int .i64 loc]) := Lib.hid (by rw [hW]; exact (Blk.new _ _ _).alloc _)
  have HE : Hid (Blk W (w.heap.size + 1) 24 #[.int .i64 k, .int .i64 o, .int .i64 m, .string (bs s), .slice A n c]) := Lib.hid (by rw [hW]; exact Blk.new_at _ _ _ _ (by simp))
  have c11 : W.cell? ⟨w.heap.size, 11, none⟩ = some (.slice S7 m7 k7) := HK.out.cell 11
  have c13 : W.cell? ⟨w.heap.size, 13, none⟩ = some (.slice S9 m9 k9) := HK.out.cell 13
  have e2 : W.cell? ⟨w.heap.size + 1, 2, none⟩ = some (.int .i64 m) := HE.out.cell 2
  have e4 : W.cell? ⟨w.heap.size + 1, 4, none⟩ = some (.slice A n c) := HE.out.cell 4
  by_cases h1 : 0 ≤ m ∧ m < (m7 : Int)
  · have hA1 : ∀ u : World, Calls Try.prog 85 #[.int .i64 m, .int .i64 (m7 : Int)] u fun e u' => e = .returned (.bool true) ∧ u = u' := fun u => by
      have := tisIndex_any u m (m7 : Int)
      rw [idx_yes h1] at this
      exact this
    obtain ⟨j, hj⟩ : ∃ j : Nat, (j : Int) = m := ⟨m.toNat, by omega⟩
    obtain ⟨ad, rfl, hab, hc⟩ := hf.2.1 (by omega)
    have hcj := hc j (by omega)
    obtain ⟨v, hv⟩ : ∃ v, v = fs.getD j 0 := ⟨_, rfl⟩
    have hvr := hf.2.2 j
    rw [← hv] at hcj hvr
    have cf : W.cell? (ad.add j) = some (.int .i64 v) := (HBW.out.cell (by rw [blk_add]; exact hab)).trans hcj
    have i1 : 0 ≤ (j : Int) ∧ (j : Int) < (m7 : Int) := by omega
    rw [idx_yes h1, Bool.true_and, ← hj, Int.toNat_natCast, ← hv] at hr2
    have hj5 : (j : Int) ≤ 9223372036854775807 := by omega
    subst hj
    have HA1 := Lib.hid hA1
    clear hA1
    by_cases h2 : 0 ≤ v ∧ v < (m9 : Int)
    · have hA2 : ∀ u : World, Calls Try.prog 85 #[.int .i64 v, .int .i64 (m9 : Int)] u fun e u' => e = .returned (.bool true) ∧ u' = u := fun u => by
        have := tisIndex_any u v (m9 : Int)
        rw [idx_yes h2] at this
        exact this.mono fun _ _ ⟨he, hw⟩ => ⟨he, hw.symm⟩
      obtain ⟨i, hi⟩ : ∃ i : Nat, (i : Int) = v := ⟨v.toNat, by omega⟩
      obtain ⟨bd, rfl, hbb, hd⟩ := hp.2.1 (by omega)
      have hdi := hd i (by omega)
      obtain ⟨z, hz⟩ : ∃ z, z = ps.getD i 0 := ⟨_, rfl⟩
      rw [← hz] at hdi
      have cp : W.cell? (bd.add i) = some (.int .i64 z) := (HBW.out.cell (by rw [blk_add]; exact hbb)).trans hdi
      have i2 : 0 ≤ (i : Int) ∧ (i : Int) < (m9 : Int) := by omega
      rw [idx_yes h2, Bool.true_and, ← hi, Int.toNat_natCast, ← hz] at hr2
      have tz : (z == (n : Int)) = r := by rw [hr2, beqX]
      subst hi
      have HA2 := Lib.hid hA2
      clear hA2 hc hd hcj hdi h1 h2 hf hp hab hbb hv hz hr2 hfl hpl
      go_enter Try.func86, Try.ntmps86
      go_wp2_with fail
      rw [← hW]
      clear hW
      refine (HA1.out _).mono ?_
      rintro f w2 ⟨rfl, rfl⟩
      go_wp2_with fail
      go_quiet ((go_at_call 85; exact Calls.quiet_of_same (HA2.out _)))
      go_wp2_with fail
      go_ret
      exact ⟨rfl, below_drewN HBW.out _⟩
    · have hA2 : ∀ u : World, Calls Try.prog 85 #[.int .i64 v, .int .i64 (m9 : Int)] u fun e u' => e = .returned (.bool false) ∧ u' = u := fun u => by
        have := tisIndex_any u v (m9 : Int)
        rw [idx_no h2] at this
        exact this.mono fun _ _ ⟨he, hw⟩ => ⟨he, hw.symm⟩
      rw [idx_no h2, Bool.false_and] at hr2
      have HA2 := Lib.hid hA2
      have HR2 := Lib.hid hr2
      clear hA2 hc hcj h1 h2 hf hp hab hv hr2 hfl hpl
      go_enter Try.func86, Try.ntmps86
      go_wp2_with fail
      rw [← hW]
      clear hW
      refine (HA1.out _).mono ?_
      rintro f w2 ⟨rfl, rfl⟩
      go_wp2_with fail
      go_quiet ((go_at_call 85; exact Calls.quiet_of_same (HA2.out _)))
      go_wp2_with fail
      go_ret
      rw [HR2.out]
      exact ⟨rfl, below_drewN HBW.out _⟩
  · have hA1 : ∀ u : World, Calls Try.prog 85 #[.int .i64 m, .int .i64 (m7 : Int)] u fun e u' => e = .returned (.bool false) ∧ u = u' := fun u => by
      have := tisIndex_any u m (m7 : Int)
      rw [idx_no h1] at this
      exact this
    rw [idx_no h1, Bool.false_and] at hr2
    have HA1 := Lib.hid hA1
    have HR2 := Lib.hid hr2
    clear hA1 h1 hf hp hr2 hfl hpl
    go_enter Try.func86, Try.ntmps86
    go_wp2_with fail
    rw [← hW]
    clear hW
    refine (HA1.out _).mono ?_
    rintro f w2 ⟨rfl, rfl⟩
    go_wp2_with fail
    go_ret
    rw [HR2.out]
    exact ⟨rfl, HBW.out⟩

set_option maxRecDepth 100000 in
set_option maxHeartbeats 1600000 in
theorem bkE_1 (t1 t2 t3 t4 : Int) (S1 : Option Addr) (m1 k1 : Nat) (fl : Int) (S2 : Option Addr) (m2 k2 : Nat) (S3 : Option Addr) (m3 k3 : Nat) (S4 : Option Addr) (m4 k4 : Nat) (S5 : Option Addr) (m5 k5 : Nat) (S6 : Option Addr) (m6 k6 : Nat) (S7 : Option Addr) (m7 k7 : Nat) (S8 : Option Addr) (m8 k8 : Nat) (S9 : Option Addr) (m9 k9 : Nat) (S10 : Option Addr) (m10 k10 : Nat) (loc : Int) (o m : Int) (s : List UInt8) (A : Option Addr) (n c : Nat) (hm1 : (m1 : Int) ≤ 9223372036854775807) (hm2 : (m2 : Int) ≤ 9223372036854775807) (hm3 : (m3 : Int) ≤ 9223372036854775807) (hm8 : (m8 : Int) ≤ 9223372036854775807) (w : World) : Calls Try.prog 63 #[.agg #[.int .i64 t1, .int .i64 t2, .int .i64 t3, .int .i64 t4, .slice S1 m1 k1, .int .i64 fl, .slice S2 m2 k2, .slice S3 m3 k3, .slice S4 m4 k4, .slice S5 m5 k5, .slice S6 m6 k6, .slice S7 m7 k7, .slice S8 m8 k8, .slice S9 m9 k9, .slice S10 m10 k10, .int .i64 loc], .agg #[.int .i64 1, .int .i64 o, .int .i64 m, .string (bs s), .slice A n c]] w fun f w' => f = .returned (.bool (amongB m (-32768) 32767)) ∧ Below w.heap.size w w' := by
  go_enter Try.func63, Try.ntmps63
  go_wp2_with fail
  refine (tIs_any _ _).mono ?_
  rintro f w2 ⟨rfl, rfl⟩
  go_wp2_with fail
  go_ret
  exact ⟨rfl, ((Below.refl _ _).alloc (Nat.le_refl _) _).alloc (by simp) _⟩

set_option maxRecDepth 100000 in
set_option maxHeartbeats 1600000 in
theorem bkE_2 (t1 t2 t3 t4 : Int) (S1 : Option Addr) (m1 k1 : Nat) (fl : Int) (S2 : Option Addr) (m2 k2 : Nat) (S3 : Option Addr) (m3 k3 : Nat) (S4 : Option Addr) (m4 k4 : Nat) (S5 : Option Addr) (m5 k5 : Nat) (S6 : Option Addr) (m6 k6 : Nat) (S7 : Option Addr) (m7 k7 : Nat) (S8 : Option Addr) (m8 k8 : Nat) (S9 : Option Addr) (m9 k9 : Nat) (S10 : Option Addr) (m10 k10 : Nat) (loc : Int) (o m : Int) (s : List UInt8) (A : Option Addr) (n c : Nat) (hm1 : (m1 : Int) ≤ 9223372036854775807) (hm2 : (m2 : Int) ≤ 9223372036854775807) (hm3 : (m3 : Int) ≤ 9223372036854775807) (hm8 : (m8 : Int) ≤ 9223372036854775807) (w : World) : Calls Try.prog 63 #[.agg #[.int .i64 t1, .int .i64 t2, .int .i64 t3, .int .i64 t4, .slice S1 m1 k1, .int .i64 fl, .slice S2 m2 k2, .slice S3 m3 k3, .slice S4 m4 k4, .slice S5 m5 k5, .slice S6 m6 k6, .slice S7 m7 k7, .slice S8 m8 k8, .slice S9 m9 k9, .slice S10 m10 k10, .int .i64 loc], .agg #[.int .i64 2, .int .i64 o, .int .i64 m, .string (bs s), .slice A n c]] w fun f w' => f = .returned (.bool (false)) ∧ Below w.heap.size w w' := by
  go_enter Try.func63, Try.ntmps63
  go_wp2_with fail
  go_ret
  exact ⟨rfl, ((Below.refl _ _).alloc (Nat.le_refl _) _).alloc (by simp) _⟩

set_option maxRecDepth 100000 in
set_option maxHeartbeats 1600000 in
theorem bkE_3 (t1 t2 t3 t4 : Int) (S1 : Option Addr) (m1 k1 : Nat) (fl : Int) (S2 : Option Addr) (m2 k2 : Nat) (S3 : Option Addr) (m3 k3 : Nat) (S4 : Option Addr) (m4 k4 : Nat) (S5 : Option Addr) (m5 k5 : Nat) (S6 : Option Addr) (m6 k6 : Nat) (S7 : Option Addr) (m7 k7 : Nat) (S8 : Option Addr) (m8 k8 : Nat) (S9 : Option Addr) (m9 k9 : Nat) (S10 : Option Addr) (m10 k10 : Nat) (loc : Int) (o m : Int) (s : List UInt8) (A : Option Addr) (n c : Nat) (hm1 : (m1 : Int) ≤ 9223372036854775807) (hm2 : (m2 : Int) ≤ 9223372036854775807) (hm3 : (m3 : Int) ≤ 9223372036854775807) (hm8 : (m8 : Int) ≤ 9223372036854775807) (w : World) : Calls Try.prog 63 #[.agg #[.int .i64 t1, .int .i64 t2, .int .i64 t3, .int .i64 t4, .slice S1 m1 k1, .int .i64 fl, .slice S2 m2 k2, .slice S3 m3 k3, .slice S4 m4 k4, .slice S5 m5 k5, .slice S6 m6 k6, .slice S7 m7 k7, .slice S8 m8 k8, .slice S9 m9 k9, .slice S10 m10 k10, .int .i64 loc], .agg #[.int .i64 3, .int .i64 o, .int .i64 m, .string (bs s), .slice A n c]] w fun f w' => f = .returned (.bool (false)) ∧ Below w.heap.size w w' := by
  go_enter Try.func63, Try.ntmps63
  go_wp2_with fail
  go_ret
  exact ⟨rfl, ((Below.refl _ _).alloc (Nat.le_refl _) _).alloc (by simp) _⟩

set_option maxRecDepth 100000 in
set_option maxHeartbeats 1600000 in
theorem bkE_4 (t1 t2 t3 t4 : Int) (S1 : Option Addr) (m1 k1 : Nat) (fl : Int) (S2 : Option Addr) (m2 k2 : Nat) (S3 : Option Addr) (m3 k3 : Nat) (S4 : Option Addr) (m4 k4 : Nat) (S5 : Option Addr) (m5 k5 : Nat) (S6 : Option Addr) (m6 k6 : Nat) (S7 : Option Addr) (m7 k7 : Nat) (S8 : Option Addr) (m8 k8 : Nat) (S9 : Option Addr) (m9 k9 : Nat) (S10 : Option Addr) (m10 k10 : Nat) (loc : Int) (o m : Int) (s : List UInt8) (A : Option Addr) (n c : Nat) (hm1 : (m1 : Int) ≤ 9223372036854775807) (hm2 : (m2 : Int) ≤ 9223372036854775807) (hm3 : (m3 : Int) ≤ 9223372036854775807) (hm8 : (m8 : Int) ≤ 9223372036854775807) (w : World) : Calls Try.prog 63 #[.agg #[.int .i64 t1, .int .i64 t2, .int .i64 t3, .int .i64 t4, .slice S1 m1 k1, .int .i64 fl, .slice S2 m2 k2, .slice S3 m3 k3, .slice S4 m4 k4, .slice S5 m5 k5, .slice S6 m6 k6, .slice S7 m7 k7, .slice S8 m8 k8, .slice S9 m9 k9, .slice S10 m10 k10, .int .i64 loc], .agg #[.int .i64 4, .int .i64 o, .int .i64 m, .string (bs s), .slice A n c]] w fun f w' => f = .returned (.bool (true)) ∧ Below w.heap.size w w' := by
  go_enter Try.func63, Try.ntmps63
  go_wp2_with fail
  go_ret
  exact ⟨rfl, ((Below.refl _ _).alloc (Nat.le_refl _) _).alloc (by simp) _⟩

set_option maxRecDepth 100000 in
set_option maxHeartbeats 1600000 in
theorem bkE_5 (t1 t2 t3 t4 : Int) (S1 : Option Addr) (m1 k1 : Nat) (fl : Int) (S2 : Option Addr) (m2 k2 : Nat) (S3 : Option Addr) (m3 k3 : Nat) (S4 : Option Addr) (m4 k4 : Nat) (S5 : Option Addr) (m5 k5 : Nat) (S6 : Option Addr) (m6 k6 : Nat) (S7 : Option Addr) (m7 k7 : Nat) (S8 : Option Addr) (m8 k8 : Nat) (S9 : Option Addr) (m9 k9 : Nat) (S10 : Option Addr) (m10 k10 : Nat) (loc : Int) (o m : Int) (s : List UInt8) (A : Option Addr) (n c : Nat) (hm1 : (m1 : Int) ≤ 9223372036854775807) (hm2 : (m2 : Int) ≤ 9223372036854775807) (hm3 : (m3 : Int) ≤ 9223372036854775807) (hm8 : (m8 : Int) ≤ 9223372036854775807) (w : World) : Calls Try.prog 63 #[.agg #[.int .i64 t1, .int .i64 t2, .int .i64 t3, .int .i64 t4, .slice S1 m1 k1, .int .i64 fl, .slice S2 m2 k2, .slice S3 m3 k3, .slice S4 m4 k4, .slice S5 m5 k5, .slice S6 m6 k6, .slice S7 m7 k7, .slice S8 m8 k8, .slice S9 m9 k9, .slice S10 m10 k10, .int .i64 loc], .agg #[.int .i64 5, .int .i64 o, .int .i64 m, .string (bs s), .slice A n c]] w fun f w' => f = .returned (.bool (true)) ∧ Below w.heap.size w w' := by
  go_enter Try.func63, Try.ntmps63
  go_wp2_with fail
  go_ret
  exact ⟨rfl, ((Below.refl _ _).alloc (Nat.le_refl _) _).alloc (by simp) _⟩

set_option maxRecDepth 100000 in
set_option maxHeartbeats 1600000 in
theorem bkE_6 (t1 t2 t3 t4 : Int) (S1 : Option Addr) (m1 k1 : Nat) (fl : Int) (S2 : Option Addr) (m2 k2 : Nat) (S3 : Option Addr) (m3 k3 : Nat) (S4 : Option Addr) (m4 k4 : Nat) (S5 : Option Addr) (m5 k5 : Nat) (S6 : Option Addr) (m6 k6 : Nat) (S7 : Option Addr) (m7 k7 : Nat) (S8 : Option Addr) (m8 k8 : Nat) (S9 : Option Addr) (m9 k9 : Nat) (S10 : Option Addr) (m10 k10 : Nat) (loc : Int) (o m : Int) (s : List UInt8) (A : Option Addr) (n c : Nat) (hm1 : (m1 : Int) ≤ 9223372036854775807) (hm2 : (m2 : Int) ≤ 9223372036854775807) (hm3 : (m3 : Int) ≤ 9223372036854775807) (hm8 : (m8 : Int) ≤ 9223372036854775807) (w : World) : Calls Try.prog 63 #[.agg #[.int .i64 t1, .int .i64 t2, .int .i64 t3, .int .i64 t4, .slice S1 m1 k1, .int .i64 fl, .slice S2 m2 k2, .slice S3 m3 k3, .slice S4 m4 k4, .slice S5 m5 k5, .slice S6 m6 k6, .slice S7 m7 k7, .slice S8 m8 k8, .slice S9 m9 k9, .slice S10 m10 k10, .int .i64 loc], .agg #[.int .i64 6, .int .i64 o, .int .i64 m, .string (bs s), .slice A n c]] w fun f w' => f = .returned (.bool (true)) ∧ Below w.heap.size w w' := by
  go_enter Try.func63, Try.ntmps63
  go_wp2_with fail
  go_ret
  exact ⟨rfl, ((Below.refl _ _).alloc (Nat.le_refl _) _).alloc (by simp) _⟩

set_option maxRecDepth 100000 in
set_option maxHeartbeats 1600000 in
theorem bkE_7 (t1 t2 t3 t4 : Int) (S1 : Option Addr) (m1 k1 : Nat) (fl : Int) (S2 : Option Addr) (m2 k2 : Nat) (S3 : Option Addr) (m3 k3 : Nat) (S4 : Option Addr) (m4 k4 : Nat) (S5 : Option Addr) (m5 k5 : Nat) (S6 : Option Addr) (m6 k6 : Nat) (S7 : Option Addr) (m7 k7 : Nat) (S8 : Option Addr) (m8 k8 : Nat) (S9 : Option Addr) (m9 k9 : Nat) (S10 : Option Addr) (m10 k10 : Nat) (loc : Int) (o m : Int) (s : List UInt8) (A : Option Addr) (n c : Nat) (hm1 : (m1 : Int) ≤ 9223372036854775807) (hm2 : (m2 : Int) ≤ 9223372036854775807) (hm3 : (m3 : Int) ≤ 9223372036854775807) (hm8 : (m8 : Int) ≤ 9223372036854775807) (w : World) : Calls Try.prog 63 #[.agg #[.int .i64 t1, .int .i64 t2, .int .i64 t3, .int .i64 t4, .slice S1 m1 k1, .int .i64 fl, .slice S2 m2 k2, .slice S3 m3 k3, .slice S4 m4 k4, .slice S5 m5 k5, .slice S6 m6 k6, .slice S7 m7 k7, .slice S8 m8 k8, .slice S9 m9 k9, .slice S10 m10 k10, .int .i64 loc], .agg #[.int .i64 7, .int .i64 o, .int .i64 m, .string (bs s), .slice A n c]] w fun f w' => f = .returned (.bool (false)) ∧ Below w.heap.size w w' := by
  go_enter Try.func63, Try.ntmps63
  go_wp2_with fail
  go_ret
  exact ⟨rfl, ((Below.refl _ _).alloc (Nat.le_refl _) _).alloc (by simp) _⟩

set_option maxRecDepth 100000 in
set_option maxHeartbeats 1600000 in
theorem bkE_8 (t1 t2 t3 t4 : Int) (S1 : Option Addr) (m1 k1 : Nat) (fl : Int) (S2 : Option Addr) (m2 k2 : Nat) (S3 : Option Addr) (m3 k3 : Nat) (S4 : Option Addr) (m4 k4 : Nat) (S5 : Option Addr) (m5 k5 : Nat) (S6 : Option Addr) (m6 k6 : Nat) (S7 : Option Addr) (m7 k7 : Nat) (S8 : Option Addr) (m8 k8 : Nat) (S9 : Option Addr) (m9 k9 : Nat) (S10 : Option Addr) (m10 k10 : Nat) (loc : Int) (o m : Int) (s : List UInt8) (A : Option Addr) (n c : Nat) (hm1 : (m1 : Int) ≤ 9223372036854775807) (hm2 : (m2 : Int) ≤ 9223372036854775807) (hm3 : (m3 : Int) ≤ 9223372036854775807) (hm8 : (m8 : Int) ≤ 9223372036854775807) (w : World) : Calls Try.prog 63 #[.agg #[.int .i64 t1, .int .i64 t2, .int .i64 t3, .int .i64 t4, .slice S1 m1 k1, .int .i64 fl, .slice S2 m2 k2, .slice S3 m3 k3, .slice S4 m4 k4, .slice S5 m5 k5, .slice S6 m6 k6, .slice S7 m7 k7, .slice S8 m8 k8, .slice S9 m9 k9, .slice S10 m10 k10, .int .i64 loc], .agg #[.int .i64 8, .int .i64 o, .int .i64 m, .string (bs s), .slice A n c]] w fun f w' => f = .returned (.bool (false)) ∧ Below w.heap.size w w' := by
  go_enter Try.func63, Try.ntmps63
  go_wp2_with fail
  go_ret
  exact ⟨rfl, ((Below.refl _ _).alloc (Nat.le_refl _) _).alloc (by simp) _⟩

set_option maxRecDepth 100000 in
set_option maxHeartbeats 1600000 in
theorem bkE_9 (t1 t2 t3 t4 : Int) (S1 : Option Addr) (m1 k1 : Nat) (fl : Int) (S2 : Option Addr) (m2 k2 : Nat) (S3 : Option Addr) (m3 k3 : Nat) (S4 : Option Addr) (m4 k4 : Nat) (S5 : Option Addr) (m5 k5 : Nat) (S6 : Option Addr) (m6 k6 : Nat) (S7 : Option Addr) (m7 k7 : Nat) (S8 : Option Addr) (m8 k8 : Nat) (S9 : Option Addr) (m9 k9 : Nat) (S10 : Option Addr) (m10 k10 : Nat) (loc : Int) (o m : Int) (s : List UInt8) (A : Option Addr) (n c : Nat) (hm1 : (m1 : Int) ≤ 9223372036854775807) (hm2 : (m2 : Int) ≤ 9223372036854775807) (hm3 : (m3 : Int) ≤ 9223372036854775807) (hm8 : (m8 : Int) ≤ 9223372036854775807) (w : World) : Calls Try.prog 63 #[.agg #[.int .i64 t1, .int .i64 t2, .int .i64 t3, .int .i64 t4, .slice S1 m1 k1, .int .i64 fl, .slice S2 m2 k2, .slice S3 m3 k3, .slice S4 m4 k4, .slice S5 m5 k5, .slice S6 m6 k6, .slice S7 m7 k7, .slice S8 m8 k8, .slice S9 m9 k9, .slice S10 m10 k10, .int .i64 loc], .agg #[.int .i64 9, .int .i64 o, .int .i64 m, .string (bs s), .slice A n c]] w fun f w' => f = .returned (.bool (false)) ∧ Below w.heap.size w w' := by
  go_enter Try.func63, Try.ntmps63
  go_wp2_with fail
  go_ret
  exact ⟨rfl, ((Below.refl _ _).alloc (Nat.le_refl _) _).alloc (by simp) _⟩

set_option maxRecDepth 100000 in
set_option maxHeartbeats 1600000 in
theorem bkE_10 (t1 t2 t3 t4 : Int) (S1 : Option Addr) (m1 k1 : Nat) (fl : Int) (S2 : Option Addr) (m2 k2 : Nat) (S3 : Option Addr) (m3 k3 : Nat) (S4 : Option Addr) (m4 k4 : Nat) (S5 : Option Addr) (m5 k5 : Nat) (S6 : Option Addr) (m6 k6 : Nat) (S7 : Option Addr) (m7 k7 : Nat) (S8 : Option Addr) (m8 k8 : Nat) (S9 : Option Addr) (m9 k9 : Nat) (S10 : Option Addr) (m10 k10 : Nat) (loc : Int) (o m : Int) (s : List UInt8) (A : Option Addr) (n c : Nat) (hm1 : (m1 : Int) ≤ 9223372036854775807) (hm2 : (m2 : Int) ≤ 9223372036854775807) (hm3 : (m3 : Int) ≤ 9223372036854775807) (hm8 : (m8 : Int) ≤ 9223372036854775807) (w : World) : Calls Try.prog 63 #[.agg #[.int .i64 t1, .int .i64 t2, .int .i64 t3, .int .i64 t4, .slice S1 m1 k1, .int .i64 fl, .slice S2 m2 k2, .slice S3 m3 k3, .slice S4 m4 k4, .slice S5 m5 k5, .slice S6 m6 k6, .slice S7 m7 k7, .slice S8 m8 k8, .slice S9 m9 k9, .slice S10 m10 k10, .int .i64 loc], .agg #[.int .i64 10, .int .i64 o, .int .i64 m, .string (bs s), .slice A n c]] w fun f w' => f = .returned (.bool (true)) ∧ Below w.heap.size w w' := by
  go_enter Try.func63, Try.ntmps63
  go_wp2_with fail
  go_ret
  exact ⟨rfl, ((Below.refl _ _).alloc (Nat.le_refl _) _).alloc (by simp) _⟩

set_option maxRecDepth 100000 in
set_option maxHeartbeats 1600000 in
theorem bkE_11 (t1 t2 t3 t4 : Int) (S1 : Option Addr) (m1 k1 : Nat) (fl : Int) (S2 : Option Addr) (m2 k2 : Nat) (S3 : Option Addr) (m3 k3 : Nat) (S4 : Option Addr) (m4 k4 : Nat) (S5 : Option Addr) (m5 k5 : Nat) (S6 : Option Addr) (m6 k6 : Nat) (S7 : Option Addr) (m7 k7 : Nat) (S8 : Option Addr) (m8 k8 : Nat) (S9 : Option Addr) (m9 k9 : Nat) (S10 : Option Addr) (m10 k10 : Nat) (loc : Int) (o m : Int) (s : List UInt8) (A : Option Addr) (n c : Nat) (hm1 : (m1 : Int) ≤ 9223372036854775807) (hm2 : (m2 : Int) ≤ 9223372036854775807) (hm3 : (m3 : Int) ≤ 9223372036854775807) (hm8 : (m8 : Int) ≤ 9223372036854775807) (w : World) : Calls Try.prog 63 #[.agg #[.int .i64 t1, .int .i64 t2, .int .i64 t3, .int .i64 t4, .slice S1 m1 k1, .int .i64 fl, .slice S2 m2 k2, .slice S3 m3 k3, .slice S4 m4 k4, .slice S5 m5 k5, .slice S6 m6 k6, .slice S7 m7 k7, .slice S8 m8 k8, .slice S9 m9 k9, .slice S10 m10 k10, .int .i64 loc], .agg #[.int .i64 11, .int .i64 o, .int .i64 m, .string (bs s), .slice A n c]] w fun f w' => f = .returned (.bool (true)) ∧ Below w.heap.size w w' := by
  go_enter Try.func63, Try.ntmps63
  go_wp2_with fail
  go_ret
  exact ⟨rfl, ((Below.refl _ _).alloc (Nat.le_refl _) _).alloc (by simp) _⟩

set_option maxRecDepth 100000 in
set_option maxHeartbeats 1600000 in
theorem bkE_12 (t1 t2 t3 t4 : Int) (S1 : Option Addr) (m1 k1 : Nat) (fl : Int) (S2 : Option Addr) (m2 k2 : Nat) (S3 : Option Addr) (m3 k3 : Nat) (S4 : Option Addr) (m4 k4 : Nat) (S5 : Option Addr) (m5 k5 : Nat) (S6 : Option Addr) (m6 k6 : Nat) (S7 : Option Addr) (m7 k7 : Nat) (S8 : Option Addr) (m8 k8 : Nat) (S9 : Option Addr) (m9 k9 : Nat) (S10 : Option Addr) (m10 k10 : Nat) (loc : Int) (o m : Int) (s : List UInt8) (A : Option Addr) (n c : Nat) (hm1 : (m1 : Int) ≤ 9223372036854775807) (hm2 : (m2 : Int) ≤ 9223372036854775807) (hm3 : (m3 : Int) ≤ 9223372036854775807) (hm8 : (m8 : Int) ≤ 9223372036854775807) (w : World) : Calls Try.prog 63 #[.agg #[.int .i64 t1, .int .i64 t2, .int .i64 t3, .int .i64 t4, .slice S1 m1 k1, .int .i64 fl, .slice S2 m2 k2, .slice S3 m3 k3, .slice S4 m4 k4, .slice S5 m5 k5, .slice S6 m6 k6, .slice S7 m7 k7, .slice S8 m8 k8, .slice S9 m9 k9, .slice S10 m10 k10, .int .i64 loc], .agg #[.int .i64 12, .int .i64 o, .int .i64 m, .string (bs s), .slice A n c]] w fun f w' => f = .returned (.bool (true)) ∧ Below w.heap.size w w' := by
  go_enter Try.func63, Try.ntmps63
  go_wp2_with fail
  go_ret
  exact ⟨rfl, ((Below.refl _ _).alloc (Nat.le_refl _) _).alloc (by simp) _⟩

set_option maxRecDepth 100000 in
set_option maxHeartbeats 1600000 in
theorem bkE_13 (t1 t2 t3 t4 : Int) (S1 : Option Addr) (m1 k1 : Nat) (fl : Int) (S2 : Option Addr) (m2 k2 : Nat) (S3 : Option Addr) (m3 k3 : Nat) (S4 : Option Addr) (m4 k4 : Nat) (S5 : Option Addr) (m5 k5 : Nat) (S6 : Option Addr) (m6 k6 : Nat) (S7 : Option Addr) (m7 k7 : Nat) (S8 : Option Addr) (m8 k8 : Nat) (S9 : Option Addr) (m9 k9 : Nat) (S10 : Option Addr) (m10 k10 : Nat) (loc : Int) (o m : Int) (s : List UInt8) (A : Option Addr) (n c : Nat) (hm1 : (m1 : Int) ≤ 9223372036854775807) (hm2 : (m2 : Int) ≤ 9223372036854775807) (hm3 : (m3 : Int) ≤ 9223372036854775807) (hm8 : (m8 : Int) ≤ 9223372036854775807) (w : World) : Calls Try.prog 63 #[.agg #[.int .i64 t1, .int .i64 t2, .int .i64 t3, .int .i64 t4, .slice S1 m1 k1, .int .i64 fl, .slice S2 m2 k2, .slice S3 m3 k3, .slice S4 m4 k4, .slice S5 m5 k5, .slice S6 m6 k6, .slice S7 m7 k7, .slice S8 m8 k8, .slice S9 m9 k9, .slice S10 m10 k10, .int .i64 loc], .agg #[.int .i64 13, .int .i64 o, .int .i64 m, .string (bs s), .slice A n c]] w fun f w' => f = .returned (.bool (true)) ∧ Below w.heap.size w w' := by
  go_enter Try.func63, Try.ntmps63
  go_wp2_with fail
  go_ret
  exact ⟨rfl, ((Below.refl _ _).alloc (Nat.le_refl _) _).alloc (by simp) _⟩

set_option maxRecDepth 100000 in
set_option maxHeartbeats 1600000 in
theorem bkE_14 (t1 t2 t3 t4 : Int) (S1 : Option Addr) (m1 k1 : Nat) (fl : Int) (S2 : Option Addr) (m2 k2 : Nat) (S3 : Option Addr) (m3 k3 : Nat) (S4 : Option Addr) (m4 k4 : Nat) (S5 : Option Addr) (m5 k5 : Nat) (S6 : Option Addr) (m6 k6 : Nat) (S7 : Option Addr) (m7 k7 : Nat) (S8 : Option Addr) (m8 k8 : Nat) (S9 : Option Addr) (m9 k9 : Nat) (S10 : Option Addr) (m10 k10 : Nat) (loc : Int) (o m : Int) (s : List UInt8) (A : Option Addr) (n c : Nat) (hm1 : (m1 : Int) ≤ 9223372036854775807) (hm2 : (m2 : Int) ≤ 9223372036854775807) (hm3 : (m3 : Int) ≤ 9223372036854775807) (hm8 : (m8 : Int) ≤ 9223372036854775807) (w : World) : Calls Try.prog 63 #[.agg #[.int .i64 t1, .int .i64 t2, .int .i64 t3, .int .i64 t4, .slice S1 m1 k1, .int .i64 fl, .slice S2 m2 k2, .slice S3 m3 k3, .slice S4 m4 k4, .slice S5 m5 k5, .slice S6 m6 k6, .slice S7 m7 k7, .slice S8 m8 k8, .slice S9 m9 k9, .slice S10 m10 k10, .int .i64 loc], .agg #[.int .i64 14, .int .i64 o, .int .i64 m, .string (bs s), .slice A n c]] w fun f w' => f = .returned (.bool (idxB m m3)) ∧ Below w.heap.size w w' := by
  go_enter Try.func63, Try.ntmps63
  go_wp2_with fail
  refine (tisIndex_any _ _ _).mono ?_
  rintro f w2 ⟨rfl, rfl⟩
  go_wp2_with fail
  go_ret
  exact ⟨rfl, ((Below.refl _ _).alloc (Nat.le_refl _) _).alloc (by simp) _⟩

set_option maxRecDepth 100000 in
set_option maxHeartbeats 1600000 in
theorem bkE_15 (t1 t2 t3 t4 : Int) (S1 : Option Addr) (m1 k1 : Nat) (fl : Int) (S2 : Option Addr) (m2 k2 : Nat) (S3 : Option Addr) (m3 k3 : Nat) (S4 : Option Addr) (m4 k4 : Nat) (S5 : Option Addr) (m5 k5 : Nat) (S6 : Option Addr) (m6 k6 : Nat) (S7 : Option Addr) (m7 k7 : Nat) (S8 : Option Addr) (m8 k8 : Nat) (S9 : Option Addr) (m9 k9 : Nat) (S10 : Option Addr) (m10 k10 : Nat) (loc : Int) (o m : Int) (s : List UInt8) (A : Option Addr) (n c : Nat) (hm1 : (m1 : Int) ≤ 9223372036854775807) (hm2 : (m2 : Int) ≤ 9223372036854775807) (hm3 : (m3 : Int) ≤ 9223372036854775807) (hm8 : (m8 : Int) ≤ 9223372036854775807) (w : World) : Calls Try.prog 63 #[.agg #[.int .i64 t1, .int .i64 t2, .int .i64 t3, .int .i64 t4, .slice S1 m1 k1, .int .i64 fl, .slice S2 m2 k2, .slice S3 m3 k3, .slice S4 m4 k4, .slice S5 m5 k5, .slice S6 m6 k6, .slice S7 m7 k7, .slice S8 m8 k8, .slice S9 m9 k9, .slice S10 m10 k10, .int .i64 loc], .agg #[.int .i64 15, .int .i64 o, .int .i64 m, .string (bs s), .slice A n c]] w fun f w' => f = .returned (.bool (idxB m loc)) ∧ Below w.heap.size w w' := by
  go_enter Try.func63, Try.ntmps63
  go_wp2_with fail
  refine (tisIndex_any _ _ _).mono ?_
  rintro f w2 ⟨rfl, rfl⟩
  go_wp2_with fail
  go_ret
  exact ⟨rfl, ((Below.refl _ _).alloc (Nat.le_refl _) _).alloc (by simp) _⟩

set_option maxRecDepth 100000 in
set_option maxHeartbeats 1600000 in
theorem bkE_16 (t1 t2 t3 t4 : Int) (S1 : Option Addr) (m1 k1 : Nat) (fl : Int) (S2 : Option Addr) (m2 k2 : Nat) (S3 : Option Addr) (m3 k3 : Nat) (S4 : Option Addr) (m4 k4 : Nat) (S5 : Option Addr) (m5 k5 : Nat) (S6 : Option Addr) (m6 k6 : Nat) (S7 : Option Addr) (m7 k7 : Nat) (S8 : Option Addr) (m8 k8 : Nat) (S9 : Option Addr) (m9 k9 : Nat) (S10 : Option Addr) (m10 k10 : Nat) (loc : Int) (o m : Int) (s : List UInt8) (A : Option Addr) (n c : Nat) (hm1 : (m1 : Int) ≤ 9223372036854775807) (hm2 : (m2 : Int) ≤ 9223372036854775807) (hm3 : (m3 : Int) ≤ 9223372036854775807) (hm8 : (m8 : Int) ≤ 9223372036854775807) (w : World) : Calls Try.prog 63 #[.agg #[.int .i64 t1, .int .i64 t2, .int .i64 t3, .int .i64 t4, .slice S1 m1 k1, .int .i64 fl, .slice S2 m2 k2, .slice S3 m3 k3, .slice S4 m4 k4, .slice S5 m5 k5, .slice S6 m6 k6, .slice S7 m7 k7, .slice S8 m8 k8, .slice S9 m9 k9, .slice S10 m10 k10, .int .i64 loc], .agg #[.int .i64 16, .int .i64 o, .int .i64 m, .string (bs s), .slice A n c]] w fun f w' => f = .returned (.bool (idxB m fl)) ∧ Below w.heap.size w w' := by
  go_enter Try.func63, Try.ntmps63
  go_wp2_with fail
  refine (tisIndex_any _ _ _).mono ?_
  rintro f w2 ⟨rfl, rfl⟩
  go_wp2_with fail
  go_ret
  exact ⟨rfl, ((Below.refl _ _).alloc (Nat.le_refl _) _).alloc (by simp) _⟩

set_option maxRecDepth 100000 in
set_option maxHeartbeats 1600000 in
theorem bkE_17 (t1 t2 t3 t4 : Int) (S1 : Option Addr) (m1 k1 : Nat) (fl : Int) (S2 : Option Addr) (m2 k2 : Nat) (S3 : Option Addr) (m3 k3 : Nat) (S4 : Option Addr) (m4 k4 : Nat) (S5 : Option Addr) (m5 k5 : Nat) (S6 : Option Addr) (m6 k6 : Nat) (S7 : Option Addr) (m7 k7 : Nat) (S8 : Option Addr) (m8 k8 : Nat) (S9 : Option Addr) (m9 k9 : Nat) (S10 : Option Addr) (m10 k10 : Nat) (loc : Int) (o m : Int) (s : List UInt8) (A : Option Addr) (n c : Nat) (hm1 : (m1 : Int) ≤ 9223372036854775807) (hm2 : (m2 : Int) ≤ 9223372036854775807) (hm3 : (m3 : Int) ≤ 9223372036854775807) (hm8 : (m8 : Int) ≤ 9223372036854775807) (w : World) : Calls Try.prog 63 #[.agg #[.int .i64 t1, .int .i64 t2, .int .i64 t3, .int .i64 t4, .slice S1 m1 k1, .int .i64 fl, .slice S2 m2 k2, .slice S3 m3 k3, .slice S4 m4 k4, .slice S5 m5 k5, .slice S6 m6 k6, .slice S7 m7 k7, .slice S8 m8 k8, .slice S9 m9 k9, .slice S10 m10 k10, .int .i64 loc], .agg #[.int .i64 17, .int .i64 o, .int .i64 m, .string (bs s), .slice A n c]] w fun f w' => f = .returned (.bool (idxB m m2)) ∧ Below w.heap.size w w' := by
  go_enter Try.func63, Try.ntmps63
  go_wp2_with fail
  refine (tisIndex_any _ _ _).mono ?_
  rintro f w2 ⟨rfl, rfl⟩
  go_wp2_with fail
  go_ret
  exact ⟨rfl, ((Below.refl _ _).alloc (Nat.le_refl _) _).alloc (by simp) _⟩

set_option maxRecDepth 100000 in
set_option maxHeartbeats 1600000 in
theorem bkE_19 (t1 t2 t3 t4 : Int) (S1 : Option Addr) (m1 k1 : Nat) (fl : Int) (S2 : Option Addr) (m2 k2 : Nat) (S3 : Option Addr) (m3 k3 : Nat) (S4 : Option Addr) (m4 k4 : Nat) (S5 : Option Addr) (m5 k5 : Nat) (S6 : Option Addr) (m6 k6 : Nat) (S7 : Option Addr) (m7 k7 : Nat) (S8 : Option Addr) (m8 k8 : Nat) (S9 : Option Addr) (m9 k9 : Nat) (S10 : Option Addr) (m10 k10 : Nat) (loc : Int) (o m : Int) (s : List UInt8) (A : Option Addr) (n c : Nat) (hm1 : (m1 : Int) ≤ 9223372036854775807) (hm2 : (m2 : Int) ≤ 9223372036854775807) (hm3 : (m3 : Int) ≤ 9223372036854775807) (hm8 : (m8 : Int) ≤ 9223372036854775807) (w : World) : Calls Try.prog 63 #[.agg #[.int .i64 t1, .int .i64 t2, .int .i64 t3, .int .i64 t4, .slice S1 m1 k1, .int .i64 fl, .slice S2 m2 k2, .slice S3 m3 k3, .slice S4 m4 k4, .slice S5 m5 k5, .slice S6 m6 k6, .slice S7 m7 k7, .slice S8 m8 k8, .slice S9 m9 k9, .slice S10 m10 k10, .int .i64 loc], .agg #[.int .i64 19, .int .i64 o, .int .i64 m, .string (bs s), .slice A n c]] w fun f w' => f = .returned (.bool (idxB m m1)) ∧ Below w.heap.size w w' := by
  go_enter Try.func63, Try.ntmps63
  go_wp2_with fail
  refine (tisIndex_any _ _ _).mono ?_
  rintro f w2 ⟨rfl, rfl⟩
  go_wp2_with fail
  go_ret
  exact ⟨rfl, ((Below.refl _ _).alloc (Nat.le_refl _) _).alloc (by simp) _⟩

set_option maxRecDepth 100000 in
set_option maxHeartbeats 1600000 in
theorem bkE_0 (k : Int) (h1 : k ≠ 1) (h2 : k ≠ 2) (h3 : k ≠ 3) (h4 : k ≠ 4) (h5 : k ≠ 5) (h6 : k ≠ 6) (h7 : k ≠ 7) (h8 : k ≠ 8) (h9 : k ≠ 9) (h10 : k ≠ 10) (h11 : k ≠ 11) (h12 : k ≠ 12) (h13 : k ≠ 13) (h14 : k ≠ 14) (h15 : k ≠ 15) (h16 : k ≠ 16) (h17 : k ≠ 17) (h18 : k ≠ 18) (h19 : k ≠ 19) (t1 t2 t3 t4 : Int) (S1 : Option Addr) (m1 k1 : Nat) (fl : Int) (S2 : Option Addr) (m2 k2 : Nat) (S3 : Option Addr) (m3 k3 : Nat) (S4 : Option Addr) (m4 k4 : Nat) (S5 : Option Addr) (m5 k5 : Nat) (S6 : Option Addr) (m6 k6 : Nat) (S7 : Option Addr) (m7 k7 : Nat) (S8 : Option Addr) (m8 k8 : Nat) (S9 : Option Addr) (m9 k9 : Nat) (S10 : Option Addr) (m10 k10 : Nat) (loc : Int) (o m : Int) (s : List UInt8) (A : Option Addr) (n c : Nat) (hm1 : (m1 : Int) ≤ 9223372036854775807) (hm2 : (m2 : Int) ≤ 9223372036854775807) (hm3 : (m3 : Int) ≤ 9223372036854775807) (hm8 : (m8 : Int) ≤ 9223372036854775807) (w : World) : Calls Try.prog 63 #[.agg #[.int .i64 t1, .int .i64 t2, .int .i64 t3, .int .i64 t4, .slice S1 m1 k1, .int .i64 fl, .slice S2 m2 k2, .slice S3 m3 k3, .slice S4 m4 k4, .slice S5 m5 k5, .slice S6 m6 k6, .slice S7 m7 k7, .slice S8 m8 k8, .slice S9 m9 k9, .slice S10 m10 k10, .int .i64 loc], .agg #[.int .i64 k, .int .i64 o, .int .i64 m, .string (bs s), .slice A n c]] w fun f w' => f = .returned (.bool (false)) ∧ Below w.heap.size w w' := by
  have t1e : (k == 1) = false := by rw [beq_eq_false_iff_ne]; exact h1
  have t4e : (k == 4) = false := by rw [beq_eq_false_iff_ne]; exact h4
  have t5e : (k == 5) = false := by rw [beq_eq_false_iff_ne]; exact h5
  have t6e : (k == 6) = false := by rw [beq_eq_false_iff_ne]; exact h6
  have t10e : (k == 10) = false := by rw [beq_eq_false_iff_ne]; exact h10
  have t11e : (k == 11) = false := by rw [beq_eq_false_iff_ne]; exact h11
  have t12e : (k == 12) = false := by rw [beq_eq_false_iff_ne]; exact h12
  have t13e : (k == 13) = false := by rw [beq_eq_false_iff_ne]; exact h13
  have t14e : (k == 14) = false := by rw [beq_eq_false_iff_ne]; exact h14
  have t15e : (k == 15) = false := by rw [beq_eq_false_iff_ne]; exact h15
  have t16e : (k == 16) = false := by rw [beq_eq_false_iff_ne]; exact h16
  have t17e : (k == 17) = false := by rw [beq_eq_false_iff_ne]; exact h17
  have t18e : (k == 18) = false := by rw [beq_eq_false_iff_ne]; exact h18
  have t19e : (k == 19) = false := by rw [beq_eq_false_iff_ne]; exact h19
  clear h1 h2 h3 h4 h5 h6 h7 h8 h9 h10 h11 h12 h13 h14 h15 h16 h17 h18 h19
  go_enter Try.func63, Try.ntmps63
  go_wp2_with fail
  go_ret
  exact ⟨rfl, ((Below.refl _ _).alloc (Nat.le_refl _) _).alloc (by simp) _⟩

set_option maxRecDepth 100000 in
set_option maxHeartbeats 6400000 in
theorem bkE_18 (T : TV) (loc : Int) (e : EL) (he : e.kind = 18) (w : World) (hin : T.In w w.heap.size) (hnum : -9223372036854775808 ≤ e.num ∧ e.num ≤ 9223372036854775807) (hen : (e.n : Int) ≤ 9223372036854775807) : Calls Try.prog 63 #[T.rt loc, eVal e] w fun f w' => f = .returned (.bool (callB T.tb e)) ∧ Below w.heap.size w w' := by
  have HC := Lib.hid (fun (W : World) (hb : Below w.heap.size w W) => thasCall_any T loc e W ((hin.below hb).more hb.size) hnum hen)
  obtain ⟨r, hr⟩ : ∃ r, r = callB T.tb e := ⟨_, rfl⟩
  simp only [← hr] at HC
  rw [← hr]
  clear hr hin hnum hen
  obtain ⟨t1, t2, t3, t4, S1, m1, k1, fl, S2, m2, k2, S3, m3, k3, S4, m4, k4, S5, m5, k5, S6, m6, k6, S7, m7, k7, S8, m8, k8, S9, m9, k9, S10, m10, k10, fs, ps⟩ := T
  obtain ⟨k, o, m, s, A, n, c, es⟩ := e
  change k = 18 at he
  subst he
  show Calls Try.prog _ #[.agg #[.int .i64 t1, .int .i64 t2, .int .i64 t3, .int .i64 t4, .slice S1 m1 k1, .int .i64 fl, .slice S2 m2 k2, .slice S3 m3 k3, .slice S4 m4 k4, .slice S5 m5 k5, .slice S6 m6 k6, .slice S7 m7 k7, .slice S8 m8 k8, .slice S9 m9 k9, .slice S10 m10 k10, .int .i64 loc], .agg #[.int .i64 18, .int .i64 o, .int .i64 m, .string (bs s), .slice A n c]] w fun f w' => f = .returned (.bool r) ∧ Below w.heap.size w w'
  obtain ⟨W, hW⟩ : ∃ W, W = ((w.alloc (.cells #[.int .i64 t1, .int .i64 t2, .int .i64 t3, .int .i64 t4, .slice S1 m1 k1, .int .i64 fl, .slice S2 m2 k2, .slice S3 m3 k3, .slice S4 m4 k4, .slice S5 m5 k5, .slice S6 m6 k6, .slice S7 m7 k7, .slice S8 m8 k8, .slice S9 m9 k9, .slice S10 m10 k10, .int .i64 loc] 77)).alloc (.cells #[.int .i64 18, .int .i64 o, .int .i64 m, .string (bs s), .slice A n c] 24)) := ⟨_, rfl⟩
  have HBW : Hid (Below w.heap.size w W) := Lib.hid (by rw [hW]; exact ((Below.refl _ _).alloc (Nat.le_refl _) _).alloc (by simp) _)
  have HK : Hid (Blk W w.heap.size 77 #[.int .i64 t1, .int .i64 t2, .int .i64 t3, .int .i64 t4, .slice S1 m1 k1, .int .i64 fl, .slice S2 m2 k2, .slice S3 m3 k3, .slice S4 m4 k4, .slice S5 m5 k5, .slice S6 m6 k6, .slice S7 m7 k7, .slice S8 m8 k8, .slice S9 m9 k9, .slice S10 m10 k10, .int .i64 loc]) := Lib.hid (by rw [hW]; exact (Blk.new _ _ _).alloc _)
  go_enter Try.func63, Try.ntmps63
  go_wp2_with (rw [← hW]; refine wpList_load_row rfl 77 _ rfl w.heap.size rfl 77 #[.int .i64 t1, .int .i64 t2, .int .i64 t3, .int .i64 t4, .slice S1 m1 k1, .int .i64 fl, .slice S2 m2 k2, .slice S3 m3 k3, .slice S4 m4 k4, .slice S5 m5 k5, .slice S6 m6 k6, .slice S7 m7 k7, .slice S8 m8 k8, .slice S9 m9 k9, .slice S10 m10 k10, .int .i64 loc] (0, 0) _ HK.out Try.underlying77 rfl rt_size ?_; rw [hW])
  rw [← hW]
  clear hW
  refine (HC.out W HBW.out).mono ?_
  rintro f w2 ⟨rfl, hb2⟩
  go_wp2_with fail
  go_ret
  exact ⟨rfl, HBW.out.trans (hb2.mono HBW.out.size)⟩

theorem thasExpr_any (T : TV) (loc : Int) (e : EL) (w : World) (hT : T.In w w.heap.size) (hin : e.In w w.heap.size) : Calls Try.prog 63 #[T.rt loc, eVal e] w fun f w' => f = .returned (.bool (bkE T.tb loc e)) ∧ Below w.heap.size w w' := by
  have hs := hin.fit.1
  have hn9 := hin.row.2.1
  obtain ⟨k, o, m, s, A, n, c, es⟩ := e
  change (n : Int) ≤ _ at hn9
  by_cases h18 : k = 18
  · subst h18
    exact bkE_18 T loc (.mk 18 o m s A n c es) rfl w hT hs hn9
  obtain ⟨t1, t2, t3, t4, S1, m1, k1, fl, S2, m2, k2, S3, m3, k3, S4, m4, k4, S5, m5, k5, S6, m6, k6, S7, m7, k7, S8, m8, k8, S9, m9, k9, S10, m10, k10, fs, ps⟩ := T
  obtain ⟨⟨hm1, hm2, hm3, hm7, hm8, hm9⟩, hf, hp⟩ := hT
  by_cases h1 : k = 1
  · subst h1
    exact bkE_1 t1 t2 t3 t4 S1 m1 k1 fl S2 m2 k2 S3 m3 k3 S4 m4 k4 S5 m5 k5 S6 m6 k6 S7 m7 k7 S8 m8 k8 S9 m9 k9 S10 m10 k10 loc o m s A n c hm1 hm2 hm3 hm8 w
  by_cases h2 : k = 2
  · subst h2
    exact bkE_2 t1 t2 t3 t4 S1 m1 k1 fl S2 m2 k2 S3 m3 k3 S4 m4 k4 S5 m5 k5 S6 m6 k6 S7 m7 k7 S8 m8 k8 S9 m9 k9 S10 m10 k10 loc o m s A n c hm1 hm2 hm3 hm8 w
  by_cases h3 : k = 3
  · subst h3
    exact bkE_3 t1 t2 t3 t4 S1 m1 k1 fl S2 m2 k2 S3 m3 k3 S4 m4 k4 S5 m5 k5 S6 m6 k6 S7 m7 k7 S8 m8 k8 S9 m9 k9 S10 m10 k10 loc o m s A n c hm1 hm2 hm3 hm8 w
  by_cases h4 : k = 4
  · subst h4
    exact bkE_4 t1 t2 t3 t4 S1 m1 k1 fl S2 m2 k2 S3 m3 k3 S4 m4 k4 S5 m5 k5 S6 m6 k6 S7 m7 k7 S8 m8 k8 S9 m9 k9 S10 m10 k10 loc o m s A n c hm1 hm2 hm3 hm8 w
  by_cases h5 : k = 5
  · subst h5
    exact bkE_5 t1 t2 t3 t4 S1 m1 k1 fl S2 m2 k2 S3 m3 k3 S4 m4 k4 S5 m5 k5 S6 m6 k6 S7 m7 k7 S8 m8 k8 S9 m9 k9 S10 m10 k10 loc o m s A n c hm1 hm2 hm3 hm8 w
  by_cases h6 : k = 6
  · subst h6
    exact bkE_6 t1 t2 t3 t4 S1 m1 k1 fl S2 m2 k2 S3 m3 k3 S4 m4 k4 S5 m5 k5 S6 m6 k6 S7 m7 k7 S8 m8 k8 S9 m9 k9 S10 m10 k10 loc o m s A n c hm1 hm2 hm3 hm8 w
  by_cases h7 : k = 7
  · subst h7
    exact bkE_7 t1 t2 t3 t4 S1 m1 k1 fl S2 m2 k2 S3 m3 k3 S4 m4 k4 S5 m5 k5 S6 m6 k6 S7 m7 k7 S8 m8 k8 S9 m9 k9 S10 m10 k10 loc o m s A n c hm1 hm2 hm3 hm8 w
  by_cases h8 : k = 8
  · subst h8
    exact bkE_8 t1 t2 t3 t4 S1 m1 k1 fl S2 m2 k2 S3 m3 k3 S4 m4 k4 S5 m5 k5 S6 m6 k6 S7 m7 k7 S8 m8 k8 S9 m9 k9 S10 m10 k10 loc o m s A n c hm1 hm2 hm3 hm8 w
  by_cases h9 : k = 9
  · subst h9
    exact bkE_9 t1 t2 t3 t4 S1 m1 k1 fl S2 m2 k2 S3 m3 k3 S4 m4 k4 S5 m5 k5 S6 m6 k6 S7 m7 k7 S8 m8 k8 S9 m9 k9 S10 m10 k10 loc o m s A n c hm1 hm2 hm3 hm8 w
  by_cases h10 : k = 10
  · subst h10
    exact bkE_10 t1 t2 t3 t4 S1 m1 k1 fl S2 m2 k2 S3 m3 k3 S4 m4 k4 S5 m5 k5 S6 m6 k6 S7 m7 k7 S8 m8 k8 S9 m9 k9 S10 m10 k10 loc o m s A n c hm1 hm2 hm3 hm8 w
  by_cases h11 : k = 11
  · subst h11
    exact bkE_11 t1 t2 t3 t4 S1 m1 k1 fl S2 m2 k2 S3 m3 k3 S4 m4 k4 S5 m5 k5 S6 m6 k6 S7 m7 k7 S8 m8 k8 S9 m9 k9 S10 m10 k10 loc o m s A n c hm1 hm2 hm3 hm8 w
  by_cases h12 : k = 12
  · subst h12
    exact bkE_12 t1 t2 t3 t4 S1 m1 k1 fl S2 m2 k2 S3 m3 k3 S4 m4 k4 S5 m5 k5 S6 m6 k6 S7 m7 k7 S8 m8 k8 S9 m9 k9 S10 m10 k10 loc o m s A n c hm1 hm2 hm3 hm8 w
  by_cases h13 : k = 13
  · subst h13
    exact bkE_13 t1 t2 t3 t4 S1 m1 k1 fl S2 m2 k2 S3 m3 k3 S4 m4 k4 S5 m5 k5 S6 m6 k6 S7 m7 k7 S8 m8 k8 S9 m9 k9 S10 m10 k10 loc o m s A n c hm1 hm2 hm3 hm8 w
  by_cases h14 : k = 14
  · subst h14
    exact bkE_14 t1 t2 t3 t4 S1 m1 k1 fl S2 m2 k2 S3 m3 k3 S4 m4 k4 S5 m5 k5 S6 m6 k6 S7 m7 k7 S8 m8 k8 S9 m9 k9 S10 m10 k10 loc o m s A n c hm1 hm2 hm3 hm8 w
  by_cases h15 : k = 15
  · subst h15
    exact bkE_15 t1 t2 t3 t4 S1 m1 k1 fl S2 m2 k2 S3 m3 k3 S4 m4 k4 S5 m5 k5 S6 m6 k6 S7 m7 k7 S8 m8 k8 S9 m9 k9 S10 m10 k10 loc o m s A n c hm1 hm2 hm3 hm8 w
  by_cases h16 : k = 16
  · subst h16
    exact bkE_16 t1 t2 t3 t4 S1 m1 k1 fl S2 m2 k2 S3 m3 k3 S4 m4 k4 S5 m5 k5 S6 m6 k6 S7 m7 k7 S8 m8 k8 S9 m9 k9 S10 m10 k10 loc o m s A n c hm1 hm2 hm3 hm8 w
  by_cases h17 : k = 17
  · subst h17
    exact bkE_17 t1 t2 t3 t4 S1 m1 k1 fl S2 m2 k2 S3 m3 k3 S4 m4 k4 S5 m5 k5 S6 m6 k6 S7 m7 k7 S8 m8 k8 S9 m9 k9 S10 m10 k10 loc o m s A n c hm1 hm2 hm3 hm8 w
  by_cases h19 : k = 19
  · subst h19
    exact bkE_19 t1 t2 t3 t4 S1 m1 k1 fl S2 m2 k2 S3 m3 k3 S4 m4 k4 S5 m5 k5 S6 m6 k6 S7 m7 k7 S8 m8 k8 S9 m9 k9 S10 m10 k10 loc o m s A n c hm1 hm2 hm3 hm8 w
  have e : bkE (TB.mk m1 fl m2 m3 m8 fs ps) loc (EL.mk k o m s A n c es) = false := by
    unfold bkE
    simp only [EL.kind, h1, h4, h5, h6, h10, h11, h12, h13, h14, h15, h16, h17, h18, h19, or_self, if_false, decide_false]
  change Calls Try.prog _ _ w fun f w' => f = .returned (.bool (bkE (TB.mk m1 fl m2 m3 m8 fs ps) loc (EL.mk k o m s A n c es))) ∧ Below w.heap.size w w'
  rw [e]
  exact bkE_0 k h1 h2 h3 h4 h5 h6 h7 h8 h9 h10 h11 h12 h13 h14 h15 h16 h17 h18 h19 t1 t2 t3 t4 S1 m1 k1 fl S2 m2 k2 S3 m3 k3 S4 m4 k4 S5 m5 k5 S6 m6 k6 S7 m7 k7 S8 m8 k8 S9 m9 k9 S10 m10 k10 loc o m s A n c hm1 hm2 hm3 hm8 w

end Go.Proofs.Ytdmpadonnobeaaa
