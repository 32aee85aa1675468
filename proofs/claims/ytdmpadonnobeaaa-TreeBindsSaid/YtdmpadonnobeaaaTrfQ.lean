/- What an expression, a statement of a kind has: the program's form and the reference's agree. -/
import Derived.Test.YtdmpadonnobeaaaTrfK
import Derived.Test.YtdmpadonnobeaaaTrfP
import Derived.Test.YtdmpadonnobeaaaTreQ
namespace Go.Proofs.Ytdmpadonnobeaaa
open Go.RowKit
set_option linter.unusedVariables false
set_option linter.unusedSimpArgs false

theorem near_eq {n a b : Int} (h : a ≤ b) : (n = nearL n a b) = (a ≤ n ∧ n ≤ b) := by
  unfold nearL
  rw [eq_iff_iff]
  omega
theorem near1 (n : Int) : (n = nearL n 1 14) = (1 ≤ n ∧ n ≤ 14) := near_eq (by decide)
theorem near2 (n : Int) : (n = nearL n 1 3) = (1 ≤ n ∧ n ≤ 3) := near_eq (by decide)
theorem near3 (n : Int) : (n = nearL n 1 6) = (1 ≤ n ∧ n ≤ 6) := near_eq (by decide)
theorem near4 (n : Int) : (n = nearL n 0 8) = (0 ≤ n ∧ n ≤ 8) := near_eq (by decide)
theorem near5 (n : Int) : (n = nearL n 1 8) = (1 ≤ n ∧ n ≤ 8) := near_eq (by decide)

theorem idx_among {n : Int} {k : Nat} : idxB n (k : Int) = amongB n 0 ((k : Int) - 1) := by
  unfold idxB amongB
  congr 1
  exact decide_eq_decide.2 (by omega)
theorem call_params {t : TB} {e : EL} (h : e.args.length = e.n) : callB t e = decide (paramsT t e.num = (e.args.length : Int)) := by
  unfold callB paramsT
  rw [idx_among, idx_among, h]
  by_cases h1 : amongB e.num 0 ((t.funcs.length : Int) - 1) = true
  · by_cases h2 : amongB (t.funcs.getD e.num.toNat 0) 0 ((t.params.length : Int) - 1) = true
    · rw [if_pos ⟨h1, h2⟩, h1, h2]; rfl
    · rw [if_neg (fun h => h2 h.2)]
      rw [Bool.not_eq_true] at h2
      rw [h1, h2, Bool.false_and, Bool.and_false]
      exact (decide_eq_false (by omega)).symm
  · rw [if_neg (fun h => h1 h.1)]
    rw [Bool.not_eq_true] at h1
    rw [h1, Bool.false_and]
    exact (decide_eq_false (by omega)).symm

theorem src_h1 (e : EL) (hl : e.args.length = e.n) : (decide (e.fv = e.form) && srcE e) = okE nmB true e := by
  obtain ⟨k, o, m, s, A, n, c, es⟩ := e
  change es.length = n at hl
  have hn : ((n : Int) = 0) = (n = 0) := by rw [eq_iff_iff]; omega
  have hn1 : ((n : Int) = 1) = (n = 1) := by rw [eq_iff_iff]; omega
  have hn2 : ((n : Int) = 2) = (n = 2) := by rw [eq_iff_iff]; omega
  by_cases h1 : k = 1
  · subst h1
    rw [Bool.eq_iff_iff]
    simp [EL.fv, EL.form, bareE, amongB, EL.kind, EL.op, EL.num, EL.name, EL.n, EL.args, hl, hn, hn1, hn2, near1, near2, near3, near4, srcE, okE]
    try grind
  by_cases h2 : k = 2
  · subst h2
    rw [Bool.eq_iff_iff]
    simp [EL.fv, EL.form, bareE, amongB, EL.kind, EL.op, EL.num, EL.name, EL.n, EL.args, hl, hn, hn1, hn2, near1, near2, near3, near4, srcE, okE]
    try grind
  by_cases h3 : k = 3
  · subst h3
    rw [Bool.eq_iff_iff]
    simp [EL.fv, EL.form, bareE, amongB, EL.kind, EL.op, EL.num, EL.name, EL.n, EL.args, hl, hn, hn1, hn2, near1, near2, near3, near4, srcE, okE]
    try grind
  by_cases h4 : k = 4
  · subst h4
    rw [Bool.eq_iff_iff]
    simp [EL.fv, EL.form, bareE, amongB, EL.kind, EL.op, EL.num, EL.name, EL.n, EL.args, hl, hn, hn1, hn2, near1, near2, near3, near4, srcE, okE]
    try grind
  by_cases h5 : k = 5
  · subst h5
    rw [Bool.eq_iff_iff]
    simp [EL.fv, EL.form, bareE, amongB, EL.kind, EL.op, EL.num, EL.name, EL.n, EL.args, hl, hn, hn1, hn2, near1, near2, near3, near4, srcE, okE]
    try grind
  by_cases h6 : k = 6
  · subst h6
    rw [Bool.eq_iff_iff]
    simp [EL.fv, EL.form, bareE, amongB, EL.kind, EL.op, EL.num, EL.name, EL.n, EL.args, hl, hn, hn1, hn2, near1, near2, near3, near4, srcE, okE]
    try grind
  by_cases h7 : k = 7
  · subst h7
    rw [Bool.eq_iff_iff]
    simp [EL.fv, EL.form, bareE, amongB, EL.kind, EL.op, EL.num, EL.name, EL.n, EL.args, hl, hn, hn1, hn2, near1, near2, near3, near4, srcE, okE]
    try grind
  by_cases h8 : k = 8
  · subst h8
    rw [Bool.eq_iff_iff]
    simp [EL.fv, EL.form, bareE, amongB, EL.kind, EL.op, EL.num, EL.name, EL.n, EL.args, hl, hn, hn1, hn2, near1, near2, near3, near4, srcE, okE]
    try grind
  by_cases h9 : k = 9
  · subst h9
    rw [Bool.eq_iff_iff]
    simp [EL.fv, EL.form, bareE, amongB, EL.kind, EL.op, EL.num, EL.name, EL.n, EL.args, hl, hn, hn1, hn2, near1, near2, near3, near4, srcE, okE]
    try grind
  by_cases h10 : k = 10
  · subst h10
    rw [Bool.eq_iff_iff]
    simp [EL.fv, EL.form, bareE, amongB, EL.kind, EL.op, EL.num, EL.name, EL.n, EL.args, hl, hn, hn1, hn2, near1, near2, near3, near4, srcE, okE]
    try grind
  by_cases h11 : k = 11
  · subst h11
    rw [Bool.eq_iff_iff]
    simp [EL.fv, EL.form, bareE, amongB, EL.kind, EL.op, EL.num, EL.name, EL.n, EL.args, hl, hn, hn1, hn2, near1, near2, near3, near4, srcE, okE]
    try grind
  by_cases h12 : k = 12
  · subst h12
    rw [Bool.eq_iff_iff]
    simp [EL.fv, EL.form, bareE, amongB, EL.kind, EL.op, EL.num, EL.name, EL.n, EL.args, hl, hn, hn1, hn2, near1, near2, near3, near4, srcE, okE]
    try grind
  by_cases h13 : k = 13
  · subst h13
    rw [Bool.eq_iff_iff]
    simp [EL.fv, EL.form, bareE, amongB, EL.kind, EL.op, EL.num, EL.name, EL.n, EL.args, hl, hn, hn1, hn2, near1, near2, near3, near4, srcE, okE]
    try grind
  by_cases h14 : k = 14
  · subst h14
    rw [Bool.eq_iff_iff]
    simp [EL.fv, EL.form, bareE, amongB, EL.kind, EL.op, EL.num, EL.name, EL.n, EL.args, hl, hn, hn1, hn2, near1, near2, near3, near4, srcE, okE]
    try grind
  by_cases h15 : k = 15
  · subst h15
    rw [Bool.eq_iff_iff]
    simp [EL.fv, EL.form, bareE, amongB, EL.kind, EL.op, EL.num, EL.name, EL.n, EL.args, hl, hn, hn1, hn2, near1, near2, near3, near4, srcE, okE]
    try grind
  by_cases h16 : k = 16
  · subst h16
    rw [Bool.eq_iff_iff]
    simp [EL.fv, EL.form, bareE, amongB, EL.kind, EL.op, EL.num, EL.name, EL.n, EL.args, hl, hn, hn1, hn2, near1, near2, near3, near4, srcE, okE]
    try grind
  by_cases h17 : k = 17
  · subst h17
    rw [Bool.eq_iff_iff]
    simp [EL.fv, EL.form, bareE, amongB, EL.kind, EL.op, EL.num, EL.name, EL.n, EL.args, hl, hn, hn1, hn2, near1, near2, near3, near4, srcE, okE]
    try grind
  by_cases h18 : k = 18
  · subst h18
    rw [Bool.eq_iff_iff]
    simp [EL.fv, EL.form, bareE, amongB, EL.kind, EL.op, EL.num, EL.name, EL.n, EL.args, hl, hn, hn1, hn2, near1, near2, near3, near4, srcE, okE]
    try grind
  by_cases h19 : k = 19
  · subst h19
    rw [Bool.eq_iff_iff]
    simp [EL.fv, EL.form, bareE, amongB, EL.kind, EL.op, EL.num, EL.name, EL.n, EL.args, hl, hn, hn1, hn2, near1, near2, near3, near4, srcE, okE]
    try grind
  rw [Bool.eq_iff_iff]
  simp [EL.fv, EL.form, bareE, amongB, EL.kind, EL.op, EL.num, EL.name, EL.n, EL.args, hl, hn, hn1, hn2, near1, near2, near3, near4, srcE, okE, h1, h2, h3, h4, h5, h6, h7, h8, h9, h10, h11, h12, h13, h14, h15, h16, h17, h18, h19]

theorem bk_h1 (t : TB) (loc : Int) (e : EL) (hl : e.args.length = e.n) : (decide (e.fv = e.form) && bkE t loc e) = okB t loc true e := by
  have hcp := call_params (t := t) hl
  obtain ⟨k, o, m, s, A, n, c, es⟩ := e
  change es.length = n at hl
  by_cases h18 : k = 18
  · subst h18
    have e1 : bkE t loc (.mk 18 o m s A n c es) = decide (paramsT t m = (es.length : Int)) := hcp
    have e2 : okB t loc true (.mk 18 o m s A n c es) = (bareE (.mk 18 o m s A n c es) es.length false true false && decide (paramsT t m = (es.length : Int))) := rfl
    rw [e1, e2]
    congr 1
    rw [Bool.eq_iff_iff]
    simp [EL.fv, EL.form, bareE, EL.kind, EL.op, EL.num, EL.name, EL.n, EL.args, hl]
    try grind
  have hn : ((n : Int) = 0) = (n = 0) := by rw [eq_iff_iff]; omega
  have hn1 : ((n : Int) = 1) = (n = 1) := by rw [eq_iff_iff]; omega
  have hn2 : ((n : Int) = 2) = (n = 2) := by rw [eq_iff_iff]; omega
  by_cases h1 : k = 1
  · subst h1
    rw [Bool.eq_iff_iff]
    simp [EL.fv, EL.form, bareE, amongB, EL.kind, EL.op, EL.num, EL.name, EL.n, EL.args, hl, hn, hn1, hn2, near1, near2, near3, near4, bkE, okB, idx_among, idxB]
    try grind
  by_cases h2 : k = 2
  · subst h2
    rw [Bool.eq_iff_iff]
    simp [EL.fv, EL.form, bareE, amongB, EL.kind, EL.op, EL.num, EL.name, EL.n, EL.args, hl, hn, hn1, hn2, near1, near2, near3, near4, bkE, okB, idx_among, idxB]
    try grind
  by_cases h3 : k = 3
  · subst h3
    rw [Bool.eq_iff_iff]
    simp [EL.fv, EL.form, bareE, amongB, EL.kind, EL.op, EL.num, EL.name, EL.n, EL.args, hl, hn, hn1, hn2, near1, near2, near3, near4, bkE, okB, idx_among, idxB]
    try grind
  by_cases h4 : k = 4
  · subst h4
    rw [Bool.eq_iff_iff]
    simp [EL.fv, EL.form, bareE, amongB, EL.kind, EL.op, EL.num, EL.name, EL.n, EL.args, hl, hn, hn1, hn2, near1, near2, near3, near4, bkE, okB, idx_among, idxB]
    try grind
  by_cases h5 : k = 5
  · subst h5
    rw [Bool.eq_iff_iff]
    simp [EL.fv, EL.form, bareE, amongB, EL.kind, EL.op, EL.num, EL.name, EL.n, EL.args, hl, hn, hn1, hn2, near1, near2, near3, near4, bkE, okB, idx_among, idxB]
    try grind
  by_cases h6 : k = 6
  · subst h6
    rw [Bool.eq_iff_iff]
    simp [EL.fv, EL.form, bareE, amongB, EL.kind, EL.op, EL.num, EL.name, EL.n, EL.args, hl, hn, hn1, hn2, near1, near2, near3, near4, bkE, okB, idx_among, idxB]
    try grind
  by_cases h7 : k = 7
  · subst h7
    rw [Bool.eq_iff_iff]
    simp [EL.fv, EL.form, bareE, amongB, EL.kind, EL.op, EL.num, EL.name, EL.n, EL.args, hl, hn, hn1, hn2, near1, near2, near3, near4, bkE, okB, idx_among, idxB]
    try grind
  by_cases h8 : k = 8
  · subst h8
    rw [Bool.eq_iff_iff]
    simp [EL.fv, EL.form, bareE, amongB, EL.kind, EL.op, EL.num, EL.name, EL.n, EL.args, hl, hn, hn1, hn2, near1, near2, near3, near4, bkE, okB, idx_among, idxB]
    try grind
  by_cases h9 : k = 9
  · subst h9
    rw [Bool.eq_iff_iff]
    simp [EL.fv, EL.form, bareE, amongB, EL.kind, EL.op, EL.num, EL.name, EL.n, EL.args, hl, hn, hn1, hn2, near1, near2, near3, near4, bkE, okB, idx_among, idxB]
    try grind
  by_cases h10 : k = 10
  · subst h10
    rw [Bool.eq_iff_iff]
    simp [EL.fv, EL.form, bareE, amongB, EL.kind, EL.op, EL.num, EL.name, EL.n, EL.args, hl, hn, hn1, hn2, near1, near2, near3, near4, bkE, okB, idx_among, idxB]
    try grind
  by_cases h11 : k = 11
  · subst h11
    rw [Bool.eq_iff_iff]
    simp [EL.fv, EL.form, bareE, amongB, EL.kind, EL.op, EL.num, EL.name, EL.n, EL.args, hl, hn, hn1, hn2, near1, near2, near3, near4, bkE, okB, idx_among, idxB]
    try grind
  by_cases h12 : k = 12
  · subst h12
    rw [Bool.eq_iff_iff]
    simp [EL.fv, EL.form, bareE, amongB, EL.kind, EL.op, EL.num, EL.name, EL.n, EL.args, hl, hn, hn1, hn2, near1, near2, near3, near4, bkE, okB, idx_among, idxB]
    try grind
  by_cases h13 : k = 13
  · subst h13
    rw [Bool.eq_iff_iff]
    simp [EL.fv, EL.form, bareE, amongB, EL.kind, EL.op, EL.num, EL.name, EL.n, EL.args, hl, hn, hn1, hn2, near1, near2, near3, near4, bkE, okB, idx_among, idxB]
    try grind
  by_cases h14 : k = 14
  · subst h14
    rw [Bool.eq_iff_iff]
    simp [EL.fv, EL.form, bareE, amongB, EL.kind, EL.op, EL.num, EL.name, EL.n, EL.args, hl, hn, hn1, hn2, near1, near2, near3, near4, bkE, okB, idx_among, idxB]
    try grind
  by_cases h15 : k = 15
  · subst h15
    rw [Bool.eq_iff_iff]
    simp [EL.fv, EL.form, bareE, amongB, EL.kind, EL.op, EL.num, EL.name, EL.n, EL.args, hl, hn, hn1, hn2, near1, near2, near3, near4, bkE, okB, idx_among, idxB]
    try grind
  by_cases h16 : k = 16
  · subst h16
    rw [Bool.eq_iff_iff]
    simp [EL.fv, EL.form, bareE, amongB, EL.kind, EL.op, EL.num, EL.name, EL.n, EL.args, hl, hn, hn1, hn2, near1, near2, near3, near4, bkE, okB, idx_among, idxB]
    try grind
  by_cases h17 : k = 17
  · subst h17
    rw [Bool.eq_iff_iff]
    simp [EL.fv, EL.form, bareE, amongB, EL.kind, EL.op, EL.num, EL.name, EL.n, EL.args, hl, hn, hn1, hn2, near1, near2, near3, near4, bkE, okB, idx_among, idxB]
    try grind
  by_cases h19 : k = 19
  · subst h19
    rw [Bool.eq_iff_iff]
    simp [EL.fv, EL.form, bareE, amongB, EL.kind, EL.op, EL.num, EL.name, EL.n, EL.args, hl, hn, hn1, hn2, near1, near2, near3, near4, bkE, okB, idx_among, idxB]
    try grind
  rw [Bool.eq_iff_iff]
  simp [EL.fv, EL.form, bareE, amongB, EL.kind, EL.op, EL.num, EL.name, EL.n, EL.args, hl, hn, hn1, hn2, near1, near2, near3, near4, bkE, okB, h1, h2, h3, h4, h5, h6, h7, h8, h9, h10, h11, h12, h13, h14, h15, h16, h17, h18, h19]

theorem src_h2 (e : EL) : okE nmB false e = (!sayB 2 e && okE nmB true e) := by
  obtain ⟨k, o, m, s, A, n, c, es⟩ := e
  by_cases h2 : k = 2
  · subst h2
    rfl
  by_cases h13 : k = 13
  · subst h13
    rfl
  have e1 : sayB 2 (.mk k o m s A n c es) = false := by
    unfold sayB
    simp [EL.kind, h2, h13]
  rw [e1]
  unfold okE
  simp [EL.kind, h2, h13]
theorem bk_h2 (t : TB) (loc : Int) (e : EL) : okB t loc false e = (!sayB 19 e && okB t loc true e) := by
  obtain ⟨k, o, m, s, A, n, c, es⟩ := e
  by_cases h2 : k = 19
  · subst h2
    rfl
  by_cases h13 : k = 13
  · subst h13
    rfl
  have e1 : sayB 19 (.mk k o m s A n c es) = false := by
    unfold sayB
    simp [EL.kind, h2, h13]
  rw [e1]
  unfold okB
  simp [EL.kind, h2, h13]
theorem src_h3 (said : Bool) (e : EL) : rightE nmB said e = (okE nmB said e && e.args.all (rightE nmB false)) := by rw [rightE_eq, rightEs_all]
theorem bk_h3 (t : TB) (loc : Int) (said : Bool) (e : EL) : boundE t loc said e = (okB t loc said e && e.args.all (boundE t loc false)) := by rw [boundE_eq, boundEs_all]

theorem src_h4 (s : SL) (hl : s.args.length = s.n) (hl1 : s.body.length = s.n1) (hl2 : s.els.length = s.n2) : (decide (s.fv = s.form 0 s.name) && srcS s) = ((shapeS s).1 && decide (s.num = 0) && decide (s.kind ≠ 23) && (!(shapeS s).2 || nmB s.name)) := by
  obtain ⟨k, m, s, A, n, c, es, A1, n1, c1, bo, A2, n2, c2, el⟩ := s
  change es.length = n at hl
  change bo.length = n1 at hl1
  change el.length = n2 at hl2
  have hn : ((n : Int) = 0) = (n = 0) := by rw [eq_iff_iff]; omega
  have hn1 : ((n : Int) = 1) = (n = 1) := by rw [eq_iff_iff]; omega
  have hn2 : ((n : Int) = 2) = (n = 2) := by rw [eq_iff_iff]; omega
  have hb0 : ((n1 : Int) = 0) = (bo = []) := by rw [eq_iff_iff, ← List.length_eq_zero_iff]; omega
  have he0 : ((n2 : Int) = 0) = (el = []) := by rw [eq_iff_iff, ← List.length_eq_zero_iff]; omega
  by_cases h1 : k = 1
  · subst h1
    rw [Bool.eq_iff_iff]
    simp [SL.fv, SL.form, hasS, amongB, SL.kind, SL.num, SL.name, SL.n, SL.n1, SL.n2, SL.args, SL.body, SL.els, hl, hl1, hl2, hn, hn1, hn2, hb0, he0, near5, shapeS, srcS]
    try grind
  by_cases h2 : k = 2
  · subst h2
    rw [Bool.eq_iff_iff]
    simp [SL.fv, SL.form, hasS, amongB, SL.kind, SL.num, SL.name, SL.n, SL.n1, SL.n2, SL.args, SL.body, SL.els, hl, hl1, hl2, hn, hn1, hn2, hb0, he0, near5, shapeS, srcS]
    try grind
  by_cases h3 : k = 3
  · subst h3
    rw [Bool.eq_iff_iff]
    simp [SL.fv, SL.form, hasS, amongB, SL.kind, SL.num, SL.name, SL.n, SL.n1, SL.n2, SL.args, SL.body, SL.els, hl, hl1, hl2, hn, hn1, hn2, hb0, he0, near5, shapeS, srcS]
    try grind
  by_cases h4 : k = 4
  · subst h4
    rw [Bool.eq_iff_iff]
    simp [SL.fv, SL.form, hasS, amongB, SL.kind, SL.num, SL.name, SL.n, SL.n1, SL.n2, SL.args, SL.body, SL.els, hl, hl1, hl2, hn, hn1, hn2, hb0, he0, near5, shapeS, srcS]
    try grind
  by_cases h5 : k = 5
  · subst h5
    rw [Bool.eq_iff_iff]
    simp [SL.fv, SL.form, hasS, amongB, SL.kind, SL.num, SL.name, SL.n, SL.n1, SL.n2, SL.args, SL.body, SL.els, hl, hl1, hl2, hn, hn1, hn2, hb0, he0, near5, shapeS, srcS]
    try grind
  by_cases h6 : k = 6
  · subst h6
    rw [Bool.eq_iff_iff]
    simp [SL.fv, SL.form, hasS, amongB, SL.kind, SL.num, SL.name, SL.n, SL.n1, SL.n2, SL.args, SL.body, SL.els, hl, hl1, hl2, hn, hn1, hn2, hb0, he0, near5, shapeS, srcS]
    try grind
  by_cases h7 : k = 7
  · subst h7
    rw [Bool.eq_iff_iff]
    simp [SL.fv, SL.form, hasS, amongB, SL.kind, SL.num, SL.name, SL.n, SL.n1, SL.n2, SL.args, SL.body, SL.els, hl, hl1, hl2, hn, hn1, hn2, hb0, he0, near5, shapeS, srcS]
    try grind
  by_cases h8 : k = 8
  · subst h8
    rw [Bool.eq_iff_iff]
    simp [SL.fv, SL.form, hasS, amongB, SL.kind, SL.num, SL.name, SL.n, SL.n1, SL.n2, SL.args, SL.body, SL.els, hl, hl1, hl2, hn, hn1, hn2, hb0, he0, near5, shapeS, srcS]
    try grind
  by_cases h9 : k = 9
  · subst h9
    rw [Bool.eq_iff_iff]
    simp [SL.fv, SL.form, hasS, amongB, SL.kind, SL.num, SL.name, SL.n, SL.n1, SL.n2, SL.args, SL.body, SL.els, hl, hl1, hl2, hn, hn1, hn2, hb0, he0, near5, shapeS, srcS]
    try grind
  by_cases h10 : k = 10
  · subst h10
    rw [Bool.eq_iff_iff]
    simp [SL.fv, SL.form, hasS, amongB, SL.kind, SL.num, SL.name, SL.n, SL.n1, SL.n2, SL.args, SL.body, SL.els, hl, hl1, hl2, hn, hn1, hn2, hb0, he0, near5, shapeS, srcS]
    try grind
  by_cases h11 : k = 11
  · subst h11
    rw [Bool.eq_iff_iff]
    simp [SL.fv, SL.form, hasS, amongB, SL.kind, SL.num, SL.name, SL.n, SL.n1, SL.n2, SL.args, SL.body, SL.els, hl, hl1, hl2, hn, hn1, hn2, hb0, he0, near5, shapeS, srcS]
    try grind
  by_cases h12 : k = 12
  · subst h12
    rw [Bool.eq_iff_iff]
    simp [SL.fv, SL.form, hasS, amongB, SL.kind, SL.num, SL.name, SL.n, SL.n1, SL.n2, SL.args, SL.body, SL.els, hl, hl1, hl2, hn, hn1, hn2, hb0, he0, near5, shapeS, srcS]
    try grind
  by_cases h13 : k = 13
  · subst h13
    rw [Bool.eq_iff_iff]
    simp [SL.fv, SL.form, hasS, amongB, SL.kind, SL.num, SL.name, SL.n, SL.n1, SL.n2, SL.args, SL.body, SL.els, hl, hl1, hl2, hn, hn1, hn2, hb0, he0, near5, shapeS, srcS]
    try grind
  by_cases h14 : k = 14
  · subst h14
    rw [Bool.eq_iff_iff]
    simp [SL.fv, SL.form, hasS, amongB, SL.kind, SL.num, SL.name, SL.n, SL.n1, SL.n2, SL.args, SL.body, SL.els, hl, hl1, hl2, hn, hn1, hn2, hb0, he0, near5, shapeS, srcS]
    try grind
  by_cases h15 : k = 15
  · subst h15
    rw [Bool.eq_iff_iff]
    simp [SL.fv, SL.form, hasS, amongB, SL.kind, SL.num, SL.name, SL.n, SL.n1, SL.n2, SL.args, SL.body, SL.els, hl, hl1, hl2, hn, hn1, hn2, hb0, he0, near5, shapeS, srcS]
    try grind
  by_cases h16 : k = 16
  · subst h16
    rw [Bool.eq_iff_iff]
    simp [SL.fv, SL.form, hasS, amongB, SL.kind, SL.num, SL.name, SL.n, SL.n1, SL.n2, SL.args, SL.body, SL.els, hl, hl1, hl2, hn, hn1, hn2, hb0, he0, near5, shapeS, srcS]
    try grind
  by_cases h17 : k = 17
  · subst h17
    rw [Bool.eq_iff_iff]
    simp [SL.fv, SL.form, hasS, amongB, SL.kind, SL.num, SL.name, SL.n, SL.n1, SL.n2, SL.args, SL.body, SL.els, hl, hl1, hl2, hn, hn1, hn2, hb0, he0, near5, shapeS, srcS]
    try grind
  by_cases h18 : k = 18
  · subst h18
    rw [Bool.eq_iff_iff]
    simp [SL.fv, SL.form, hasS, amongB, SL.kind, SL.num, SL.name, SL.n, SL.n1, SL.n2, SL.args, SL.body, SL.els, hl, hl1, hl2, hn, hn1, hn2, hb0, he0, near5, shapeS, srcS]
    try grind
  by_cases h19 : k = 19
  · subst h19
    rw [Bool.eq_iff_iff]
    simp [SL.fv, SL.form, hasS, amongB, SL.kind, SL.num, SL.name, SL.n, SL.n1, SL.n2, SL.args, SL.body, SL.els, hl, hl1, hl2, hn, hn1, hn2, hb0, he0, near5, shapeS, srcS]
    try grind
  by_cases h20 : k = 20
  · subst h20
    rw [Bool.eq_iff_iff]
    simp [SL.fv, SL.form, hasS, amongB, SL.kind, SL.num, SL.name, SL.n, SL.n1, SL.n2, SL.args, SL.body, SL.els, hl, hl1, hl2, hn, hn1, hn2, hb0, he0, near5, shapeS, srcS]
    try grind
  by_cases h21 : k = 21
  · subst h21
    rw [Bool.eq_iff_iff]
    simp [SL.fv, SL.form, hasS, amongB, SL.kind, SL.num, SL.name, SL.n, SL.n1, SL.n2, SL.args, SL.body, SL.els, hl, hl1, hl2, hn, hn1, hn2, hb0, he0, near5, shapeS, srcS]
    try grind
  by_cases h22 : k = 22
  · subst h22
    rw [Bool.eq_iff_iff]
    simp [SL.fv, SL.form, hasS, amongB, SL.kind, SL.num, SL.name, SL.n, SL.n1, SL.n2, SL.args, SL.body, SL.els, hl, hl1, hl2, hn, hn1, hn2, hb0, he0, near5, shapeS, srcS]
    try grind
  by_cases h23 : k = 23
  · subst h23
    rw [Bool.eq_iff_iff]
    simp [SL.fv, SL.form, hasS, amongB, SL.kind, SL.num, SL.name, SL.n, SL.n1, SL.n2, SL.args, SL.body, SL.els, hl, hl1, hl2, hn, hn1, hn2, hb0, he0, near5, shapeS, srcS]
    try grind
  rw [Bool.eq_iff_iff]
  simp [SL.fv, SL.form, hasS, amongB, SL.kind, SL.num, SL.name, SL.n, SL.n1, SL.n2, SL.args, SL.body, SL.els, hl, hl1, hl2, hn, hn1, hn2, hb0, he0, near5, shapeS, srcS, h1, h2, h3, h4, h5, h6, h7, h8, h9, h10, h11, h12, h13, h14, h15, h16, h17, h18, h19, h20, h21, h22, h23]

theorem bk_h4 (t : TB) (loc : Int) (s : SL) (hl : s.args.length = s.n) (hl1 : s.body.length = s.n1) (hl2 : s.els.length = s.n2) : (decide (s.fv = s.form s.num []) && bkS t loc s) = ((shapeS s).1 && thereS t loc s) := by
  obtain ⟨k, m, s, A, n, c, es, A1, n1, c1, bo, A2, n2, c2, el⟩ := s
  change es.length = n at hl
  change bo.length = n1 at hl1
  change el.length = n2 at hl2
  have hn : ((n : Int) = 0) = (n = 0) := by rw [eq_iff_iff]; omega
  have hn1 : ((n : Int) = 1) = (n = 1) := by rw [eq_iff_iff]; omega
  have hn2 : ((n : Int) = 2) = (n = 2) := by rw [eq_iff_iff]; omega
  have hb0 : ((n1 : Int) = 0) = (bo = []) := by rw [eq_iff_iff, ← List.length_eq_zero_iff]; omega
  have he0 : ((n2 : Int) = 0) = (el = []) := by rw [eq_iff_iff, ← List.length_eq_zero_iff]; omega
  by_cases h1 : k = 1
  · subst h1
    rw [Bool.eq_iff_iff]
    simp [SL.fv, SL.form, hasS, amongB, SL.kind, SL.num, SL.name, SL.n, SL.n1, SL.n2, SL.args, SL.body, SL.els, hl, hl1, hl2, hn, hn1, hn2, hb0, he0, near5, shapeS, bkS, thereS, idx_among, idxB]
    try grind
  by_cases h2 : k = 2
  · subst h2
    rw [Bool.eq_iff_iff]
    simp [SL.fv, SL.form, hasS, amongB, SL.kind, SL.num, SL.name, SL.n, SL.n1, SL.n2, SL.args, SL.body, SL.els, hl, hl1, hl2, hn, hn1, hn2, hb0, he0, near5, shapeS, bkS, thereS, idx_among, idxB]
    try grind
  by_cases h3 : k = 3
  · subst h3
    rw [Bool.eq_iff_iff]
    simp [SL.fv, SL.form, hasS, amongB, SL.kind, SL.num, SL.name, SL.n, SL.n1, SL.n2, SL.args, SL.body, SL.els, hl, hl1, hl2, hn, hn1, hn2, hb0, he0, near5, shapeS, bkS, thereS, idx_among, idxB]
    try grind
  by_cases h4 : k = 4
  · subst h4
    rw [Bool.eq_iff_iff]
    simp [SL.fv, SL.form, hasS, amongB, SL.kind, SL.num, SL.name, SL.n, SL.n1, SL.n2, SL.args, SL.body, SL.els, hl, hl1, hl2, hn, hn1, hn2, hb0, he0, near5, shapeS, bkS, thereS, idx_among, idxB]
    try grind
  by_cases h5 : k = 5
  · subst h5
    rw [Bool.eq_iff_iff]
    simp [SL.fv, SL.form, hasS, amongB, SL.kind, SL.num, SL.name, SL.n, SL.n1, SL.n2, SL.args, SL.body, SL.els, hl, hl1, hl2, hn, hn1, hn2, hb0, he0, near5, shapeS, bkS, thereS, idx_among, idxB]
    try grind
  by_cases h6 : k = 6
  · subst h6
    rw [Bool.eq_iff_iff]
    simp [SL.fv, SL.form, hasS, amongB, SL.kind, SL.num, SL.name, SL.n, SL.n1, SL.n2, SL.args, SL.body, SL.els, hl, hl1, hl2, hn, hn1, hn2, hb0, he0, near5, shapeS, bkS, thereS, idx_among, idxB]
    try grind
  by_cases h7 : k = 7
  · subst h7
    rw [Bool.eq_iff_iff]
    simp [SL.fv, SL.form, hasS, amongB, SL.kind, SL.num, SL.name, SL.n, SL.n1, SL.n2, SL.args, SL.body, SL.els, hl, hl1, hl2, hn, hn1, hn2, hb0, he0, near5, shapeS, bkS, thereS, idx_among, idxB]
    try grind
  by_cases h8 : k = 8
  · subst h8
    rw [Bool.eq_iff_iff]
    simp [SL.fv, SL.form, hasS, amongB, SL.kind, SL.num, SL.name, SL.n, SL.n1, SL.n2, SL.args, SL.body, SL.els, hl, hl1, hl2, hn, hn1, hn2, hb0, he0, near5, shapeS, bkS, thereS, idx_among, idxB]
    try grind
  by_cases h9 : k = 9
  · subst h9
    rw [Bool.eq_iff_iff]
    simp [SL.fv, SL.form, hasS, amongB, SL.kind, SL.num, SL.name, SL.n, SL.n1, SL.n2, SL.args, SL.body, SL.els, hl, hl1, hl2, hn, hn1, hn2, hb0, he0, near5, shapeS, bkS, thereS, idx_among, idxB]
    try grind
  by_cases h10 : k = 10
  · subst h10
    rw [Bool.eq_iff_iff]
    simp [SL.fv, SL.form, hasS, amongB, SL.kind, SL.num, SL.name, SL.n, SL.n1, SL.n2, SL.args, SL.body, SL.els, hl, hl1, hl2, hn, hn1, hn2, hb0, he0, near5, shapeS, bkS, thereS, idx_among, idxB]
    try grind
  by_cases h11 : k = 11
  · subst h11
    rw [Bool.eq_iff_iff]
    simp [SL.fv, SL.form, hasS, amongB, SL.kind, SL.num, SL.name, SL.n, SL.n1, SL.n2, SL.args, SL.body, SL.els, hl, hl1, hl2, hn, hn1, hn2, hb0, he0, near5, shapeS, bkS, thereS, idx_among, idxB]
    try grind
  by_cases h12 : k = 12
  · subst h12
    rw [Bool.eq_iff_iff]
    simp [SL.fv, SL.form, hasS, amongB, SL.kind, SL.num, SL.name, SL.n, SL.n1, SL.n2, SL.args, SL.body, SL.els, hl, hl1, hl2, hn, hn1, hn2, hb0, he0, near5, shapeS, bkS, thereS, idx_among, idxB]
    try grind
  by_cases h13 : k = 13
  · subst h13
    rw [Bool.eq_iff_iff]
    simp [SL.fv, SL.form, hasS, amongB, SL.kind, SL.num, SL.name, SL.n, SL.n1, SL.n2, SL.args, SL.body, SL.els, hl, hl1, hl2, hn, hn1, hn2, hb0, he0, near5, shapeS, bkS, thereS, idx_among, idxB]
    try grind
  by_cases h14 : k = 14
  · subst h14
    rw [Bool.eq_iff_iff]
    simp [SL.fv, SL.form, hasS, amongB, SL.kind, SL.num, SL.name, SL.n, SL.n1, SL.n2, SL.args, SL.body, SL.els, hl, hl1, hl2, hn, hn1, hn2, hb0, he0, near5, shapeS, bkS, thereS, idx_among, idxB]
    try grind
  by_cases h15 : k = 15
  · subst h15
    rw [Bool.eq_iff_iff]
    simp [SL.fv, SL.form, hasS, amongB, SL.kind, SL.num, SL.name, SL.n, SL.n1, SL.n2, SL.args, SL.body, SL.els, hl, hl1, hl2, hn, hn1, hn2, hb0, he0, near5, shapeS, bkS, thereS, idx_among, idxB]
    try grind
  by_cases h16 : k = 16
  · subst h16
    rw [Bool.eq_iff_iff]
    simp [SL.fv, SL.form, hasS, amongB, SL.kind, SL.num, SL.name, SL.n, SL.n1, SL.n2, SL.args, SL.body, SL.els, hl, hl1, hl2, hn, hn1, hn2, hb0, he0, near5, shapeS, bkS, thereS, idx_among, idxB]
    try grind
  by_cases h17 : k = 17
  · subst h17
    rw [Bool.eq_iff_iff]
    simp [SL.fv, SL.form, hasS, amongB, SL.kind, SL.num, SL.name, SL.n, SL.n1, SL.n2, SL.args, SL.body, SL.els, hl, hl1, hl2, hn, hn1, hn2, hb0, he0, near5, shapeS, bkS, thereS, idx_among, idxB]
    try grind
  by_cases h18 : k = 18
  · subst h18
    rw [Bool.eq_iff_iff]
    simp [SL.fv, SL.form, hasS, amongB, SL.kind, SL.num, SL.name, SL.n, SL.n1, SL.n2, SL.args, SL.body, SL.els, hl, hl1, hl2, hn, hn1, hn2, hb0, he0, near5, shapeS, bkS, thereS, idx_among, idxB]
    try grind
  by_cases h19 : k = 19
  · subst h19
    rw [Bool.eq_iff_iff]
    simp [SL.fv, SL.form, hasS, amongB, SL.kind, SL.num, SL.name, SL.n, SL.n1, SL.n2, SL.args, SL.body, SL.els, hl, hl1, hl2, hn, hn1, hn2, hb0, he0, near5, shapeS, bkS, thereS, idx_among, idxB]
    try grind
  by_cases h20 : k = 20
  · subst h20
    rw [Bool.eq_iff_iff]
    simp [SL.fv, SL.form, hasS, amongB, SL.kind, SL.num, SL.name, SL.n, SL.n1, SL.n2, SL.args, SL.body, SL.els, hl, hl1, hl2, hn, hn1, hn2, hb0, he0, near5, shapeS, bkS, thereS, idx_among, idxB]
    try grind
  by_cases h21 : k = 21
  · subst h21
    rw [Bool.eq_iff_iff]
    simp [SL.fv, SL.form, hasS, amongB, SL.kind, SL.num, SL.name, SL.n, SL.n1, SL.n2, SL.args, SL.body, SL.els, hl, hl1, hl2, hn, hn1, hn2, hb0, he0, near5, shapeS, bkS, thereS, idx_among, idxB]
    try grind
  by_cases h22 : k = 22
  · subst h22
    rw [Bool.eq_iff_iff]
    simp [SL.fv, SL.form, hasS, amongB, SL.kind, SL.num, SL.name, SL.n, SL.n1, SL.n2, SL.args, SL.body, SL.els, hl, hl1, hl2, hn, hn1, hn2, hb0, he0, near5, shapeS, bkS, thereS, idx_among, idxB]
    try grind
  by_cases h23 : k = 23
  · subst h23
    rw [Bool.eq_iff_iff]
    simp [SL.fv, SL.form, hasS, amongB, SL.kind, SL.num, SL.name, SL.n, SL.n1, SL.n2, SL.args, SL.body, SL.els, hl, hl1, hl2, hn, hn1, hn2, hb0, he0, near5, shapeS, bkS, thereS, idx_among, idxB]
    try grind
  rw [Bool.eq_iff_iff]
  simp [SL.fv, SL.form, hasS, amongB, SL.kind, SL.num, SL.name, SL.n, SL.n1, SL.n2, SL.args, SL.body, SL.els, hl, hl1, hl2, hn, hn1, hn2, hb0, he0, near5, shapeS, bkS, thereS, idx_among, idxB, h1, h2, h3, h4, h5, h6, h7, h8, h9, h10, h11, h12, h13, h14, h15, h16, h17, h18, h19, h20, h21, h22, h23]

end Go.Proofs.Ytdmpadonnobeaaa
