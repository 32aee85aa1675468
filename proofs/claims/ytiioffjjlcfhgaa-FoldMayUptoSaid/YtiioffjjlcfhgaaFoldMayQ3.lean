/- Contracts and lemmas that the proofs of this seat use. -/
import Derived.Test.YtiioffjjlcfhgaaFoldMayQ2
import Derived.Test.YtiioffjjlcfhgaaRows
namespace Go.Proofs.Ytiioffjjlcfhgaa

section
open Go.RowKit
set_option linter.unusedVariables false
set_option linter.unusedSimpArgs false

theorem near_eq {n a b : Int} (h : a ≤ b) : (n = nearL n a b) = (a ≤ n ∧ n ≤ b) := by
  unfold nearL
  rw [eq_iff_iff]
  omega
theorem near1 (n : Int) : (n = nearL n 1 14) = (1 ≤ n ∧ n ≤ 14) := near_eq (by decide)
theorem near2 (n : Int) : (n = nearL n 1 3) = (1 ≤ n ∧ n ≤ 3) := near_eq (by decide)
theorem near3 (n : Int) : (n = nearL n 1 6) = (1 ≤ n ∧ n ≤ 6) := near_eq (by decide)
theorem near4 (n : Int) : (n = nearL n 0 8) = (0 ≤ n ∧ n ≤ 8) := near_eq (by decide)
theorem near5 (n : Int) : (n = nearL n 1 8) = (1 ≤ n ∧ n ≤ 8) := near_eq (by decide)

theorem idx_among {n : Int} {k : Nat} : idxB n (k : Int) = amongB n 0 ((k : Int) - 1) := by
  unfold idxB amongB
  congr 1
  exact decide_eq_decide.2 (by omega)
theorem call_params {t : TB} {e : EL} (h : e.args.length = e.n) : callB t e = decide (paramsT t e.num = (e.args.length : Int)) := by
  unfold callB paramsT
  rw [idx_among, idx_among, h]
  by_cases h1 : amongB e.num 0 ((t.funcs.length : Int) - 1) = true
  · by_cases h2 : amongB (t.funcs.getD e.num.toNat 0) 0 ((t.params.length : Int) - 1) = true
    · rw [if_pos ⟨h1, h2⟩, h1, h2]; rfl
    · rw [if_neg (fun h => h2 h.2)]
      rw [Bool.not_eq_true] at h2
      rw [h1, h2, Bool.false_and, Bool.and_false]
      exact (decide_eq_false (by omega)).symm
  · rw [if_neg (fun h => h1 h.1)]
    rw [Bool.not_eq_true] at h1
    rw [h1, Bool.false_and]
    exact (decide_eq_false (by omega)).symm

theorem bk_h1 (t : TB) (loc : Int) (e : EL) (hl : e.args.length = e.n) : (decide (e.fv = e.form) && bkE t loc e) = okB t loc true e := by
  have hcp := call_params (t := t) hl
  obtain ⟨k, o, m, s, A, n, c, es⟩ := e
  change es.length = n at hl
  by_cases h18 : k = 18
  · subst h18
    have e1 : bkE t loc (.mk 18 o m s A n c es) = decide (paramsT t m = (es.length : Int)) := hcp
    have e2 : okB t loc true (.mk 18 o m s A n c es) = (bareE (.mk 18 o m s A n c es) es.length false true false && decide (paramsT t m = (es.length : Int))) := rfl
    rw [e1, e2]
    congr 1
    rw [Bool.eq_iff_iff]
    simp [EL.fv, EL.form, bareE, EL.kind, EL.op, EL.num, EL.name, EL.n, EL.args, hl]
    try grind
  have hn : ((n : Int) = 0) = (n = 0) := by rw [eq_iff_iff]; omega
  have hn1 : ((n : Int) = 1) = (n = 1) := by rw [eq_iff_iff]; omega
  have hn2 : ((n : Int) = 2) = (n = 2) := by rw [eq_iff_iff]; omega
  by_cases h1 : k = 1
  · subst h1
    rw [Bool.eq_iff_iff]
    simp [EL.fv, EL.form, bareE, amongB, EL.kind, EL.op, EL.num, EL.name, EL.n, EL.args, hl, hn, hn1, hn2, near1, near2, near3, near4, bkE, okB, idx_among, idxB]
    try grind
  by_cases h2 : k = 2
  · subst h2
    rw [Bool.eq_iff_iff]
    simp [EL.fv, EL.form, bareE, amongB, EL.kind, EL.op, EL.num, EL.name, EL.n, EL.args, hl, hn, hn1, hn2, near1, near2, near3, near4, bkE, okB, idx_among, idxB]
    try grind
  by_cases h3 : k = 3
  · subst h3
    rw [Bool.eq_iff_iff]
    simp [EL.fv, EL.form, bareE, amongB, EL.kind, EL.op, EL.num, EL.name, EL.n, EL.args, hl, hn, hn1, hn2, near1, near2, near3, near4, bkE, okB, idx_among, idxB]
    try grind
  by_cases h4 : k = 4
  · subst h4
    rw [Bool.eq_iff_iff]
    simp [EL.fv, EL.form, bareE, amongB, EL.kind, EL.op, EL.num, EL.name, EL.n, EL.args, hl, hn, hn1, hn2, near1, near2, near3, near4, bkE, okB, idx_among, idxB]
    try grind
  by_cases h5 : k = 5
  · subst h5
    rw [Bool.eq_iff_iff]
    simp [EL.fv, EL.form, bareE, amongB, EL.kind, EL.op, EL.num, EL.name, EL.n, EL.args, hl, hn, hn1, hn2, near1, near2, near3, near4, bkE, okB, idx_among, idxB]
    try grind
  by_cases h6 : k = 6
  · subst h6
    rw [Bool.eq_iff_iff]
    simp [EL.fv, EL.form, bareE, amongB, EL.kind, EL.op, EL.num, EL.name, EL.n, EL.args, hl, hn, hn1, hn2, near1, near2, near3, near4, bkE, okB, idx_among, idxB]
    try grind
  by_cases h7 : k = 7
  · subst h7
    rw [Bool.eq_iff_iff]
    simp [EL.fv, EL.form, bareE, amongB, EL.kind, EL.op, EL.num, EL.name, EL.n, EL.args, hl, hn, hn1, hn2, near1, near2, near3, near4, bkE, okB, idx_among, idxB]
    try grind
  by_cases h8 : k = 8
  · subst h8
    rw [Bool.eq_iff_iff]
    simp [EL.fv, EL.form, bareE, amongB, EL.kind, EL.op, EL.num, EL.name, EL.n, EL.args, hl, hn, hn1, hn2, near1, near2, near3, near4, bkE, okB, idx_among, idxB]
    try grind
  by_cases h9 : k = 9
  · subst h9
    rw [Bool.eq_iff_iff]
    simp [EL.fv, EL.form, bareE, amongB, EL.kind, EL.op, EL.num, EL.name, EL.n, EL.args, hl, hn, hn1, hn2, near1, near2, near3, near4, bkE, okB, idx_among, idxB]
    try grind
  by_cases h10 : k = 10
  · subst h10
    rw [Bool.eq_iff_iff]
    simp [EL.fv, EL.form, bareE, amongB, EL.kind, EL.op, EL.num, EL.name, EL.n, EL.args, hl, hn, hn1, hn2, near1, near2, near3, near4, bkE, okB, idx_among, idxB]
    try grind
  by_cases h11 : k = 11
  · subst h11
    rw [Bool.eq_iff_iff]
    simp [EL.fv, EL.form, bareE, amongB, EL.kind, EL.op, EL.num, EL.name, EL.n, EL.args, hl, hn, hn1, hn2, near1, near2, near3, near4, bkE, okB, idx_among, idxB]
    try grind
  by_cases h12 : k = 12
  · subst h12
    rw [Bool.eq_iff_iff]
    simp [EL.fv, EL.form, bareE, amongB, EL.kind, EL.op, EL.num, EL.name, EL.n, EL.args, hl, hn, hn1, hn2, near1, near2, near3, near4, bkE, okB, idx_among, idxB]
    try grind
  by_cases h13 : k = 13
  · subst h13
    rw [Bool.eq_iff_iff]
    simp [EL.fv, EL.form, bareE, amongB, EL.kind, EL.op, EL.num, EL.name, EL.n, EL.args, hl, hn, hn1, hn2, near1, near2, near3, near4, bkE, okB, idx_among, idxB]
    try grind
  by_cases h14 : k = 14
  · subst h14
    rw [Bool.eq_iff_iff]
    simp [EL.fv, EL.form, bareE, amongB, EL.kind, EL.op, EL.num, EL.name, EL.n, EL.args, hl, hn, hn1, hn2, near1, near2, near3, near4, bkE, okB, idx_among, idxB]
    try grind
  by_cases h15 : k = 15
  · subst h15
    rw [Bool.eq_iff_iff]
    simp [EL.fv, EL.form, bareE, amongB, EL.kind, EL.op, EL.num, EL.name, EL.n, EL.args, hl, hn, hn1, hn2, near1, near2, near3, near4, bkE, okB, idx_among, idxB]
    try grind
  by_cases h16 : k = 16
  · subst h16
    rw [Bool.eq_iff_iff]
    simp [EL.fv, EL.form, bareE, amongB, EL.kind, EL.op, EL.num, EL.name, EL.n, EL.args, hl, hn, hn1, hn2, near1, near2, near3, near4, bkE, okB, idx_among, idxB]
    try grind
  by_cases h17 : k = 17
  · subst h17
    rw [Bool.eq_iff_iff]
    simp [EL.fv, EL.form, bareE, amongB, EL.kind, EL.op, EL.num, EL.name, EL.n, EL.args, hl, hn, hn1, hn2, near1, near2, near3, near4, bkE, okB, idx_among, idxB]
    try grind
  by_cases h19 : k = 19
  · subst h19
    rw [Bool.eq_iff_iff]
    simp [EL.fv, EL.form, bareE, amongB, EL.kind, EL.op, EL.num, EL.name, EL.n, EL.args, hl, hn, hn1, hn2, near1, near2, near3, near4, bkE, okB, idx_among, idxB]
    try grind
  rw [Bool.eq_iff_iff]
  simp [EL.fv, EL.form, bareE, amongB, EL.kind, EL.op, EL.num, EL.name, EL.n, EL.args, hl, hn, hn1, hn2, near1, near2, near3, near4, bkE, okB, h1, h2, h3, h4, h5, h6, h7, h8, h9, h10, h11, h12, h13, h14, h15, h16, h17, h18, h19]

theorem src_h2 (e : EL) : okE nmB false e = (!sayB 2 e && okE nmB true e) := by
  obtain ⟨k, o, m, s, A, n, c, es⟩ := e
  by_cases h2 : k = 2
  · subst h2
    rfl
  by_cases h13 : k = 13
  · subst h13
    rfl
  have e1 : sayB 2 (.mk k o m s A n c es) = false := by
    unfold sayB
    simp [EL.kind, h2, h13]
  rw [e1]
  unfold okE
  simp [EL.kind, h2, h13]
theorem bk_h2 (t : TB) (loc : Int) (e : EL) : okB t loc false e = (!sayB 19 e && okB t loc true e) := by
  obtain ⟨k, o, m, s, A, n, c, es⟩ := e
  by_cases h2 : k = 19
  · subst h2
    rfl
  by_cases h13 : k = 13
  · subst h13
    rfl
  have e1 : sayB 19 (.mk k o m s A n c es) = false := by
    unfold sayB
    simp [EL.kind, h2, h13]
  rw [e1]
  unfold okB
  simp [EL.kind, h2, h13]
theorem src_h3 (said : Bool) (e : EL) : rightE nmB said e = (okE nmB said e && e.args.all (rightE nmB false)) := by rw [rightE_eq, rightEs_all]
theorem bk_h3 (t : TB) (loc : Int) (said : Bool) (e : EL) : boundE t loc said e = (okB t loc said e && e.args.all (boundE t loc false)) := by rw [boundE_eq, boundEs_all]

theorem bk_h4 (t : TB) (loc : Int) (s : SL) (hl : s.args.length = s.n) (hl1 : s.body.length = s.n1) (hl2 : s.els.length = s.n2) : (decide (s.fv = s.form s.num []) && bkS t loc s) = ((shapeS s).1 && thereS t loc s) := by
  obtain ⟨k, m, s, A, n, c, es, A1, n1, c1, bo, A2, n2, c2, el⟩ := s
  change es.length = n at hl
  change bo.length = n1 at hl1
  change el.length = n2 at hl2
  have hn : ((n : Int) = 0) = (n = 0) := by rw [eq_iff_iff]; omega
  have hn1 : ((n : Int) = 1) = (n = 1) := by rw [eq_iff_iff]; omega
  have hn2 : ((n : Int) = 2) = (n = 2) := by rw [eq_iff_iff]; omega
  have hb0 : ((n1 : Int) = 0) = (bo = []) := by rw [eq_iff_iff, ← List.length_eq_zero_iff]; omega
  have he0 : ((n2 : Int) = 0) = (el = []) := by rw [eq_iff_iff, ← List.length_eq_zero_iff]; omega
  by_cases h1 : k = 1
  · subst h1
    rw [Bool.eq_iff_iff]
    simp [SL.fv, SL.form, hasS, amongB, SL.kind, SL.num, SL.name, SL.n, SL.n1, SL.n2, SL.args, SL.body, SL.els, hl, hl1, hl2, hn, hn1, hn2, hb0, he0, near5, shapeS, bkS, thereS, idx_among, idxB]
    try grind
  by_cases h2 : k = 2
  · subst h2
    rw [Bool.eq_iff_iff]
    simp [SL.fv, SL.form, hasS, amongB, SL.kind, SL.num, SL.name, SL.n, SL.n1, SL.n2, SL.args, SL.body, SL.els, hl, hl1, hl2, hn, hn1, hn2, hb0, he0, near5, shapeS, bkS, thereS, idx_among, idxB]
    try grind
  by_cases h3 : k = 3
  · subst h3
    rw [Bool.eq_iff_iff]
    simp [SL.fv, SL.form, hasS, amongB, SL.kind, SL.num, SL.name, SL.n, SL.n1, SL.n2, SL.args, SL.body, SL.els, hl, hl1, hl2, hn, hn1, hn2, hb0, he0, near5, shapeS, bkS, thereS, idx_among, idxB]
    try grind
  by_cases h4 : k = 4
  · subst h4
    rw [Bool.eq_iff_iff]
    simp [SL.fv, SL.form, hasS, amongB, SL.kind, SL.num, SL.name, SL.n, SL.n1, SL.n2, SL.args, SL.body, SL.els, hl, hl1, hl2, hn, hn1, hn2, hb0, he0, near5, shapeS, bkS, thereS, idx_among, idxB]
    try grind
  by_cases h5 : k = 5
  · subst h5
    rw [Bool.eq_iff_iff]
    simp [SL.fv, SL.form, hasS, amongB, SL.kind, SL.num, SL.name, SL.n, SL.n1, SL.n2, SL.args, SL.body, SL.els, hl, hl1, hl2, hn, hn1, hn2, hb0, he0, near5, shapeS, bkS, thereS, idx_among, idxB]
    try grind
  by_cases h6 : k = 6
  · subst h6
    rw [Bool.eq_iff_iff]
    simp [SL.fv, SL.form, hasS, amongB, SL.kind, SL.num, SL.name, SL.n, SL.n1, SL.n2, SL.args, SL.body, SL.els, hl, hl1, hl2, hn, hn1, hn2, hb0, he0, near5, shapeS, bkS, thereS, idx_among, idxB]
    try grind
  by_cases h7 : k = 7
  · subst h7
    rw [Bool.eq_iff_iff]
    simp [SL.fv, SL.form, hasS, amongB, SL.kind, SL.num, SL.name, SL.n, SL.n1, SL.n2, SL.args, SL.body, SL.els, hl, hl1, hl2, hn, hn1, hn2, hb0, he0, near5, shapeS, bkS, thereS, idx_among, idxB]
    try grind
  by_cases h8 : k = 8
  · subst h8
    rw [Bool.eq_iff_iff]
    simp [SL.fv, SL.form, hasS, amongB, SL.kind, SL.num, SL.name, SL.n, SL.n1, SL.n2, SL.args, SL.body, SL.els, hl, hl1, hl2, hn, hn1, hn2, hb0, he0, near5, shapeS, bkS, thereS, idx_among, idxB]
    try grind
  by_cases h9 : k = 9
  · subst h9
    rw [Bool.eq_iff_iff]
    simp [SL.fv, SL.form, hasS, amongB, SL.kind, SL.num, SL.name, SL.n, SL.n1, SL.n2, SL.args, SL.body, SL.els, hl, hl1, hl2, hn, hn1, hn2, hb0, he0, near5, shapeS, bkS, thereS, idx_among, idxB]
    try grind
  by_cases h10 : k = 10
  · subst h10
    rw [Bool.eq_iff_iff]
    simp [SL.fv, SL.form, hasS, amongB, SL.kind, SL.num, SL.name, SL.n, SL.n1, SL.n2, SL.args, SL.body, SL.els, hl, hl1, hl2, hn, hn1, hn2, hb0, he0, near5, shapeS, bkS, thereS, idx_among, idxB]
    try grind
  by_cases h11 : k = 11
  · subst h11
    rw [Bool.eq_iff_iff]
    simp [SL.fv, SL.form, hasS, amongB, SL.kind, SL.num, SL.name, SL.n, SL.n1, SL.n2, SL.args, SL.body, SL.els, hl, hl1, hl2, hn, hn1, hn2, hb0, he0, near5, shapeS, bkS, thereS, idx_among, idxB]
    try grind
  by_cases h12 : k = 12
  · subst h12
    rw [Bool.eq_iff_iff]
    simp [SL.fv, SL.form, hasS, amongB, SL.kind, SL.num, SL.name, SL.n, SL.n1, SL.n2, SL.args, SL.body, SL.els, hl, hl1, hl2, hn, hn1, hn2, hb0, he0, near5, shapeS, bkS, thereS, idx_among, idxB]
    try grind
  by_cases h13 : k = 13
  · subst h13
    rw [Bool.eq_iff_iff]
    simp [SL.fv, SL.form, hasS, amongB, SL.kind, SL.num, SL.name, SL.n, SL.n1, SL.n2, SL.args, SL.body, SL.els, hl, hl1, hl2, hn, hn1, hn2, hb0, he0, near5, shapeS, bkS, thereS, idx_among, idxB]
    try grind
  by_cases h14 : k = 14
  · subst h14
    rw [Bool.eq_iff_iff]
    simp [SL.fv, SL.form, hasS, amongB, SL.kind, SL.num, SL.name, SL.n, SL.n1, SL.n2, SL.args, SL.body, SL.els, hl, hl1, hl2, hn, hn1, hn2, hb0, he0, near5, shapeS, bkS, thereS, idx_among, idxB]
    try grind
  by_cases h15 : k = 15
  · subst h15
    rw [Bool.eq_iff_iff]
    simp [SL.fv, SL.form, hasS, amongB, SL.kind, SL.num, SL.name, SL.n, SL.n1, SL.n2, SL.args, SL.body, SL.els, hl, hl1, hl2, hn, hn1, hn2, hb0, he0, near5, shapeS, bkS, thereS, idx_among, idxB]
    try grind
  by_cases h16 : k = 16
  · subst h16
    rw [Bool.eq_iff_iff]
    simp [SL.fv, SL.form, hasS, amongB, SL.kind, SL.num, SL.name, SL.n, SL.n1, SL.n2, SL.args, SL.body, SL.els, hl, hl1, hl2, hn, hn1, hn2, hb0, he0, near5, shapeS, bkS, thereS, idx_among, idxB]
    try grind
  by_cases h17 : k = 17
  · subst h17
    rw [Bool.eq_iff_iff]
    simp [SL.fv, SL.form, hasS, amongB, SL.kind, SL.num, SL.name, SL.n, SL.n1, SL.n2, SL.args, SL.body, SL.els, hl, hl1, hl2, hn, hn1, hn2, hb0, he0, near5, shapeS, bkS, thereS, idx_among, idxB]
    try grind
  by_cases h18 : k = 18
  · subst h18
    rw [Bool.eq_iff_iff]
    simp [SL.fv, SL.form, hasS, amongB, SL.kind, SL.num, SL.name, SL.n, SL.n1, SL.n2, SL.args, SL.body, SL.els, hl, hl1, hl2, hn, hn1, hn2, hb0, he0, near5, shapeS, bkS, thereS, idx_among, idxB]
    try grind
  by_cases h19 : k = 19
  · subst h19
    rw [Bool.eq_iff_iff]
    simp [SL.fv, SL.form, hasS, amongB, SL.kind, SL.num, SL.name, SL.n, SL.n1, SL.n2, SL.args, SL.body, SL.els, hl, hl1, hl2, hn, hn1, hn2, hb0, he0, near5, shapeS, bkS, thereS, idx_among, idxB]
    try grind
  by_cases h20 : k = 20
  · subst h20
    rw [Bool.eq_iff_iff]
    simp [SL.fv, SL.form, hasS, amongB, SL.kind, SL.num, SL.name, SL.n, SL.n1, SL.n2, SL.args, SL.body, SL.els, hl, hl1, hl2, hn, hn1, hn2, hb0, he0, near5, shapeS, bkS, thereS, idx_among, idxB]
    try grind
  by_cases h21 : k = 21
  · subst h21
    rw [Bool.eq_iff_iff]
    simp [SL.fv, SL.form, hasS, amongB, SL.kind, SL.num, SL.name, SL.n, SL.n1, SL.n2, SL.args, SL.body, SL.els, hl, hl1, hl2, hn, hn1, hn2, hb0, he0, near5, shapeS, bkS, thereS, idx_among, idxB]
    try grind
  by_cases h22 : k = 22
  · subst h22
    rw [Bool.eq_iff_iff]
    simp [SL.fv, SL.form, hasS, amongB, SL.kind, SL.num, SL.name, SL.n, SL.n1, SL.n2, SL.args, SL.body, SL.els, hl, hl1, hl2, hn, hn1, hn2, hb0, he0, near5, shapeS, bkS, thereS, idx_among, idxB]
    try grind
  by_cases h23 : k = 23
  · subst h23
    rw [Bool.eq_iff_iff]
    simp [SL.fv, SL.form, hasS, amongB, SL.kind, SL.num, SL.name, SL.n, SL.n1, SL.n2, SL.args, SL.body, SL.els, hl, hl1, hl2, hn, hn1, hn2, hb0, he0, near5, shapeS, bkS, thereS, idx_among, idxB]
    try grind
  rw [Bool.eq_iff_iff]
  simp [SL.fv, SL.form, hasS, amongB, SL.kind, SL.num, SL.name, SL.n, SL.n1, SL.n2, SL.args, SL.body, SL.els, hl, hl1, hl2, hn, hn1, hn2, hb0, he0, near5, shapeS, bkS, thereS, idx_among, idxB, h1, h2, h3, h4, h5, h6, h7, h8, h9, h10, h11, h12, h13, h14, h15, h16, h17, h18, h19, h20, h21, h22, h23]

end

section
open Go.RowKit

theorem tBound_any (T : TV) (loc : Int) (hloc : loc ≤ 9223372036854775807) (e : EL) (w : World) (hT : T.In w w.heap.size) (hin : e.In w w.heap.size) : Calls Try.prog 14 #[T.val, eVal e, .int .i64 loc] w fun f w' => f = .returned (.bool (boundB T.tb loc e)) ∧ Below w.heap.size w w' := by
  have h := tBound_vE T loc hloc e w hT hin
  rw [vE_gen (ok := okB T.tb loc) (R := boundE T.tb loc) (bk_h1 _ _) (bk_h2 _ _) (bk_h3 _ _) 32 e hin] at h
  exact h
theorem tBoundBlock_any (T : TV) (loc : Int) (hloc : loc ≤ 9223372036854775807) (ss : List SL) (A : Option Addr) (n c : Nat) (w : World) (hT : T.In w w.heap.size) (hA : RowS6 w w.heap.size A n ss) (hAi : SL.Ins w w.heap.size ss) : Calls Try.prog 15 #[T.val, .slice A n c, .int .i64 loc] w fun f w' => f = .returned (.bool (boundBs T.tb loc ss)) ∧ Below w.heap.size w w' := by
  have h := tBoundBlock_vB T loc hloc ss A n c w hT hA hAi
  rw [vB_gen (ok := okB T.tb loc) (R := boundE T.tb loc) (hd := headBS T.tb loc) (RS := boundS T.tb loc) (bk_h1 _ _) (bk_h2 _ _) (bk_h3 _ _) (fun s h1 h2 h3 => by rw [bk_h4 _ _ s h1 h2 h3]; rfl) (fun s => by rw [boundS_head]; unfold boundBl; rw [boundSs_all, boundSs_all]) 32 ss hAi, ← boundSs_all] at h
  exact h

end

section
open Go.RowKit
set_option linter.unusedVariables false
set_option linter.unusedSimpArgs false

/- expressions -/
/-- an expression's shape alone tells whether it may be -/
theorem okB_shape {t : TB} {loc : Int} {said : Bool} {e f : EL} (h1 : f.kind = e.kind) (h2 : f.op = e.op) (h3 : f.num = e.num) (h4 : f.name = e.name) (h5 : f.args.length = e.args.length) : okB t loc said f = okB t loc said e := by
  unfold okB bareE
  rw [h1, h2, h3, h4, h5]
theorem okB_num {t : TB} {loc : Int} {said : Bool} {f : EL} {n : Int} (h : plE f = numP n) (hn : -32768 ≤ n ∧ n ≤ 32767) : okB t loc said f = true ∧ f.args = [] := by
  rw [plE_eq] at h
  unfold numP at h
  simp only [PE.mk.injEq] at h
  obtain ⟨a, b, c, d, e⟩ := h
  have e' : f.args = [] := List.map_eq_nil_iff.1 e
  refine ⟨?_, e'⟩
  unfold okB bareE amongB
  rw [if_pos a, b, c, d, e']
  simp
  omega

theorem truthV_in (b : Bool) : -32768 ≤ truthV b ∧ truthV b ≤ 32767 := by cases b <;> decide
theorem modV_in (a b : Int) : -32768 ≤ (modV a b).1 ∧ (modV a b).1 ≤ 32767 := by
  unfold modV
  by_cases h : wrapV b = 0
  · rw [if_pos h]
    exact ⟨by decide, by decide⟩
  · rw [if_neg h]
    show -32768 ≤ wrapV a - (wrapV a).tdiv (wrapV b) * wrapV b ∧ _ ≤ _
    have hr := wrapV_range a
    have e : wrapV a - (wrapV a).tdiv (wrapV b) * wrapV b = (wrapV a).tmod (wrapV b) := by rw [Int.tmod_def, Int.mul_comm]
    show _ ∧ wrapV a - (wrapV a).tdiv (wrapV b) * wrapV b ≤ 32767
    rw [e]
    rcases Int.le_total 0 (wrapV a) with g | g
    · have h1 := Int.tmod_nonneg (wrapV b) g
      have h2 : ((wrapV a).tmod (wrapV b)).natAbs ≤ (wrapV a).natAbs := by rw [Int.natAbs_tmod]; exact Nat.mod_le _ _
      omega
    · have h1 := Int.tmod_nonneg (wrapV b) (show 0 ≤ -wrapV a by omega)
      rw [Int.neg_tmod] at h1
      have h2 : ((wrapV a).tmod (wrapV b)).natAbs ≤ (wrapV a).natAbs := by rw [Int.natAbs_tmod]; exact Nat.mod_le _ _
      omega
theorem binV_in (o a b : Int) : -32768 ≤ (binV o a b).1 ∧ (binV o a b).1 ≤ 32767 := by
  unfold binV
  by_cases h1 : (holdsV o a b).2 = true
  · rw [if_pos h1]; exact truthV_in _
  rw [if_neg h1]
  by_cases h2 : o = 10
  · rw [if_pos h2]; exact wrapV_range _
  rw [if_neg h2]
  by_cases h3 : o = 11
  · rw [if_pos h3]; exact wrapV_range _
  rw [if_neg h3]
  by_cases h4 : o = 12
  · rw [if_pos h4]; exact wrapV_range _
  rw [if_neg h4]
  by_cases h5 : o = 13
  · rw [if_pos h5]
    show -32768 ≤ (divV a b).1 ∧ (divV a b).1 ≤ 32767
    unfold divV
    by_cases h : wrapV b = 0
    · rw [if_pos h]; exact ⟨by decide, by decide⟩
    · rw [if_neg h]; exact wrapV_range _
  rw [if_neg h5]
  by_cases h6 : o = 14
  · rw [if_pos h6]; exact modV_in a b
  · rw [if_neg h6]; exact ⟨by decide, by decide⟩
theorem stepF_in (p : PE) : stepF p = p ∨ ∃ n, stepF p = numP n ∧ -32768 ≤ n ∧ n ≤ 32767 := by
  unfold stepF
  by_cases h1 : p.args.length = 1 ∧ (p.args[0]?.getD nilP).kind = 1 ∧ p.kind = 4
  · rw [if_pos h1]
    exact .inr ⟨_, rfl, by unfold negV; exact wrapV_range _⟩
  rw [if_neg h1]
  by_cases h2 : p.args.length = 1 ∧ (p.args[0]?.getD nilP).kind = 1 ∧ p.kind = 5
  · rw [if_pos h2]
    exact .inr ⟨_, rfl, truthV_in _⟩
  rw [if_neg h2]
  by_cases h3 : p.kind ≠ 6 ∨ p.args.length ≠ 2 ∨ (p.args[0]?.getD nilP).kind ≠ 1
  · rw [if_pos h3]
    exact .inl rfl
  rw [if_neg h3]
  by_cases h4 : p.op = 2 ∧ wrapV (p.args[0]?.getD nilP).num = 0
  · rw [if_pos h4]
    exact .inr ⟨_, rfl, by decide⟩
  rw [if_neg h4]
  by_cases h5 : p.op = 1 ∧ wrapV (p.args[0]?.getD nilP).num ≠ 0
  · rw [if_pos h5]
    exact .inr ⟨_, rfl, by decide⟩
  rw [if_neg h5]
  by_cases h6 : (p.args[1]?.getD nilP).kind ≠ 1
  · rw [if_pos h6]
    exact .inl rfl
  rw [if_neg h6]
  by_cases h7 : (binV p.op (wrapV (p.args[0]?.getD nilP).num) (p.args[1]?.getD nilP).num).2 = true
  · rw [if_pos h7]
    exact .inr ⟨_, rfl, binV_in _ _ _⟩
  · rw [if_neg h7]
    exact .inl rfl

/-- what is folded may be where it might have been, is no deeper, no greater, and has its kind or is a number -/
theorem fold_kept (t : TB) (loc : Int) : ∀ (e y : EL), plE y = foldP (plE e) → depE y ≤ depE e ∧ sizeE y ≤ sizeE e ∧ (∀ said, boundE t loc said e = true → boundE t loc said y = true) ∧ (e.kind ≠ 4 → e.kind ≠ 5 → e.kind ≠ 6 → y.kind = e.kind) := by
  refine EL.ind fun e ih y h => ?_
  rw [plE_eq e, foldP_eq] at h
  simp only [PE.kind, PE.op, PE.num, PE.name, PE.args] at h
  have hk : e.kind ≠ 4 → e.kind ≠ 5 → e.kind ≠ 6 → y.kind = e.kind := fun h4 h5 h6 => by
    have h2 : stepF (.mk e.kind e.op e.num e.name ((e.args.map plE).map foldP)) = .mk e.kind e.op e.num e.name ((e.args.map plE).map foldP) := by
      unfold stepF
      rw [if_neg (fun g => h4 g.2.2), if_neg (fun g => h5 g.2.2), if_pos (.inl h6)]
    rw [h2, plE_eq] at h
    simp only [PE.mk.injEq] at h
    exact h.1
  rcases stepF_in (.mk e.kind e.op e.num e.name ((e.args.map plE).map foldP)) with h2 | ⟨n, h2, hn⟩
  · rw [h2, plE_eq] at h
    simp only [PE.mk.injEq] at h
    obtain ⟨a, b, c, d, g⟩ := h
    have hl : y.args.length = e.args.length := by have := congrArg List.length g; simpa using this
    have hx : ∀ j, j < e.args.length → plE (y.args[j]?.getD nilE) = foldP (plE (e.args[j]?.getD nilE)) := fun j hj => by
      have h3 : (y.args.map plE)[j]? = ((e.args.map plE).map foldP)[j]? := by rw [g]
      have hj2 : j < y.args.length := by omega
      simp only [List.getElem?_map, List.getElem?_eq_getElem hj, List.getElem?_eq_getElem hj2, Option.map_some, Option.some.injEq] at h3
      rw [List.getElem?_eq_getElem hj, List.getElem?_eq_getElem hj2]
      exact h3
    have key : ∀ (ys es : List EL), ys.map plE = (es.map plE).map foldP → (∀ x ∈ es, ∀ y, plE y = foldP (plE x) → depE y ≤ depE x ∧ sizeE y ≤ sizeE x ∧ (∀ said, boundE t loc said x = true → boundE t loc said y = true) ∧ (x.kind ≠ 4 → x.kind ≠ 5 → x.kind ≠ 6 → y.kind = x.kind)) → depEs ys ≤ depEs es ∧ sizeEs ys ≤ sizeEs es ∧ (boundEs t loc es = true → boundEs t loc ys = true) := by
      intro ys
      induction ys with
      | nil =>
        intro es h _
        cases es with
        | nil => exact ⟨Nat.le_refl _, Nat.le_refl _, fun h => h⟩
        | cons x r => simp at h
      | cons z r ihr =>
        intro es h hi
        cases es with
        | nil => simp at h
        | cons x q =>
          simp only [List.map_cons, List.cons.injEq] at h
          obtain ⟨i1, i2, i3, _⟩ := hi x List.mem_cons_self z h.1
          obtain ⟨j1, j2, j3⟩ := ihr q h.2 (fun x hx => hi x (List.mem_cons_of_mem _ hx))
          refine ⟨?_, ?_, fun hb => ?_⟩
          · rw [depEs_cons, depEs_cons]; omega
          · rw [sizeEs_cons, sizeEs_cons]; omega
          · rw [boundEs_all] at hb ⊢
            rw [List.all_cons, Bool.and_eq_true] at hb ⊢
            rw [boundEs_all, boundEs_all] at j3
            exact ⟨i3 false hb.1, j3 hb.2⟩
    obtain ⟨k1, k2, k3⟩ := key y.args e.args g ih
    refine ⟨by rw [depE_eq, depE_eq e]; omega, by rw [sizeE_eq, sizeE_eq e]; omega, fun said hb => ?_, hk⟩
    rw [boundE_eq, Bool.and_eq_true] at hb ⊢
    exact ⟨by rw [okB_shape a b c d hl]; exact hb.1, k3 hb.2⟩
  · rw [h2] at h
    have h4 := h
    rw [plE_eq] at h4
    unfold numP at h4
    simp only [PE.mk.injEq] at h4
    have h5 : y.args = [] := List.map_eq_nil_iff.1 h4.2.2.2.2
    refine ⟨?_, ?_, fun said hb => ?_, hk⟩
    · rw [depE_eq, depE_eq e, h5]; unfold depEs; omega
    · rw [sizeE_eq, sizeE_eq e, h5]; unfold sizeEs; omega
    · rw [boundE_eq, Bool.and_eq_true, h5]
      refine ⟨(okB_num h hn).1, ?_⟩
      rw [boundEs_all]
      rfl

theorem foldEs_kept (t : TB) (loc : Int) (ys es : List EL) (h : ys.map plE = (es.map plE).map foldP) : depEs ys ≤ depEs es ∧ (∀ said, es.all (boundE t loc said) = true → ys.all (boundE t loc said) = true) ∧ ys.length = es.length ∧ ((es[0]?.getD nilE).kind = 18 → (ys[0]?.getD nilE).kind = 18) := by
  induction ys generalizing es with
  | nil =>
    cases es with
    | nil => exact ⟨Nat.le_refl _, fun _ h => h, rfl, fun h => h⟩
    | cons x r => simp at h
  | cons z r ihr =>
    cases es with
    | nil => simp at h
    | cons x q =>
      simp only [List.map_cons, List.cons.injEq] at h
      obtain ⟨i1, i2, i3, i4⟩ := fold_kept t loc x z h.1
      obtain ⟨j1, j3, j4, _⟩ := ihr q h.2
      refine ⟨?_, fun said hb => ?_, by simp [j4], fun hk => ?_⟩
      · rw [depEs_cons, depEs_cons]; omega
      · rw [List.all_cons, Bool.and_eq_true] at hb ⊢
        exact ⟨i3 said hb.1, j3 said hb.2⟩
      · have hk' : x.kind = 18 := hk
        show z.kind = 18
        rw [i4 (by omega) (by omega) (by omega), hk']

end

section
open Go.RowKit
set_option linter.unusedVariables false
set_option linter.unusedSimpArgs false

theorem boundSs_allF (t : TB) (loc : Int) (l : List SL) : boundSs t loc l = l.all (boundS t loc) := by
  induction l with
  | nil => unfold boundSs; rfl
  | cons x r ih => rw [boundSs_cons, ih, List.all_cons]
theorem depSs_appF (a b : List SL) : depSs (a ++ b) = max (depSs a) (depSs b) := by
  induction a with
  | nil => rw [List.nil_append]; unfold depSs; rw [Nat.zero_max]
  | cons x r ih => rw [List.cons_append, depSs_cons, depSs_cons, ih, Nat.max_assoc]

theorem depSs_nilF : depSs ([] : List SL) = 0 := by unfold depSs; rfl
theorem sizeSs_nilF : sizeSs ([] : List SL) = 0 := by unfold sizeSs; rfl
theorem boundSs_nilF (t : TB) (loc : Int) : boundSs t loc [] = true := by unfold boundSs; rfl

/- equal but for the rows: equal in all that counts -/
theorem boundE_plain (t : TB) (loc : Int) : ∀ (e f : EL), plE f = plE e → (∀ said, boundE t loc said f = boundE t loc said e) ∧ depE f = depE e ∧ sizeE f = sizeE e := by
  refine EL.ind fun e ih f h => ?_
  rw [plE_eq, plE_eq] at h
  simp only [PE.mk.injEq] at h
  obtain ⟨a, b, c, d, g⟩ := h
  have key : ∀ (es fs : List EL), fs.map plE = es.map plE → (∀ x ∈ es, ∀ y, plE y = plE x → (∀ said, boundE t loc said y = boundE t loc said x) ∧ depE y = depE x ∧ sizeE y = sizeE x) → boundEs t loc fs = boundEs t loc es ∧ depEs fs = depEs es ∧ sizeEs fs = sizeEs es ∧ fs.length = es.length := by
    intro es
    induction es with
    | nil => intro fs h _; obtain rfl := List.map_eq_nil_iff.1 h; exact ⟨rfl, rfl, rfl, rfl⟩
    | cons x r ihr =>
      intro fs h hi
      cases fs with
      | nil => simp at h
      | cons y q =>
        simp only [List.map_cons, List.cons.injEq] at h
        obtain ⟨i1, i2, i3⟩ := hi x List.mem_cons_self y h.1
        obtain ⟨j1, j2, j3, j4⟩ := ihr q h.2 (fun z hz => hi z (List.mem_cons_of_mem _ hz))
        refine ⟨?_, by rw [depEs_cons, depEs_cons, i2, j2], by rw [sizeEs_cons, sizeEs_cons, i3, j3], by simp [j4]⟩
        rw [boundEs_all, boundEs_all] at j1 ⊢
        rw [List.all_cons, List.all_cons, i1, j1]
  obtain ⟨k1, k2, k3, k4⟩ := key e.args f.args g ih
  refine ⟨fun said => ?_, by rw [depE_eq, depE_eq e, k2], by rw [sizeE_eq, sizeE_eq e, k3]⟩
  rw [boundE_eq, boundE_eq t loc said e, okB_shape a b c d k4, k1]
theorem boundEs_plain (t : TB) (loc : Int) (es fs : List EL) (h : fs.map plE = es.map plE) : (∀ said, fs.all (boundE t loc said) = es.all (boundE t loc said)) ∧ depEs fs = depEs es ∧ fs.length = es.length ∧ (fs[0]?.getD nilE).kind = (es[0]?.getD nilE).kind := by
  induction es generalizing fs with
  | nil => obtain rfl := List.map_eq_nil_iff.1 h; exact ⟨fun _ => rfl, rfl, rfl, rfl⟩
  | cons x r ihr =>
    cases fs with
    | nil => simp at h
    | cons y q =>
      simp only [List.map_cons, List.cons.injEq] at h
      obtain ⟨i1, i2, i3⟩ := boundE_plain t loc x y h.1
      obtain ⟨j1, j2, j3, _⟩ := ihr q h.2
      refine ⟨fun said => by rw [List.all_cons, List.all_cons, i1, j1], by rw [depEs_cons, depEs_cons, i2, j2], by simp [j3], ?_⟩
      have h1 := h.1
      rw [plE_eq, plE_eq] at h1
      simp only [PE.mk.injEq] at h1
      exact h1.1

theorem hasS_kept {s u : SL} {named : Bool} {k : Nat} {body other : Bool} (h1 : u.num = s.num) (h2 : u.name = s.name) (h3 : u.args.length = s.args.length) (h4 : s.body = [] → u.body = []) (h5 : s.els = [] → u.els = []) (h : hasS s named k body other = true) : hasS u named k body other = true := by
  unfold hasS at h ⊢
  rw [h1, h2, h3]
  simp only [Bool.and_eq_true, Bool.or_eq_true, List.isEmpty_iff] at h ⊢
  obtain ⟨⟨⟨a, b⟩, c⟩, d⟩ := h
  exact ⟨⟨⟨a, b.imp id h4⟩, c.imp id h5⟩, d⟩
theorem shapeS_kept {s u : SL} (h0 : u.kind = s.kind) (h1 : u.num = s.num) (h2 : u.name = s.name) (h3 : u.args.length = s.args.length) (h4 : s.body = [] → u.body = []) (h5 : s.els = [] → u.els = []) (h : (shapeS s).1 = true) : (shapeS u).1 = true := by
  have hk : ∀ {named : Bool} {k : Nat} {body other : Bool}, hasS s named k body other = true → hasS u named k body other = true := fun g => hasS_kept h1 h2 h3 h4 h5 g
  unfold shapeS at h ⊢
  rw [h0, h3]
  repeat' split
  all_goals simp_all
  all_goals first | exact hk h | exact hk h.1 | skip
theorem thereS_kept {t : TB} {loc : Int} {s u : SL} (h0 : u.kind = s.kind) (h1 : u.num = s.num) (h2 : u.name = s.name) : thereS t loc u = thereS t loc s := by
  unfold thereS
  rw [h0, h1, h2]

theorem isEmpty_map {α β : Type} {f : α → β} {l : List α} {m : List α} (h : m.map f = l.map f) : l = [] → m = [] := fun e => by
  subst e
  exact List.map_eq_nil_iff.1 h

theorem boundS_plain (t : TB) (loc : Int) : ∀ (s u : SL), plS u = plS s → boundS t loc u = boundS t loc s := by
  have list : ∀ (l m : List SL), (∀ x ∈ l, ∀ u, plS u = plS x → boundS t loc u = boundS t loc x) → m.map plS = l.map plS → boundSs t loc m = boundSs t loc l ∧ m.length = l.length := by
    intro l
    induction l with
    | nil => intro m _ h; obtain rfl := List.map_eq_nil_iff.1 h; exact ⟨rfl, rfl⟩
    | cons x r ih =>
      intro m hi h
      cases m with
      | nil => simp at h
      | cons y q =>
        simp only [List.map_cons, List.cons.injEq] at h
        obtain ⟨j1, j2⟩ := ih q (fun z hz => hi z (List.mem_cons_of_mem _ hz)) h.2
        exact ⟨by rw [boundSs_cons, boundSs_cons, hi x List.mem_cons_self y h.1, j1], by simp [j2]⟩
  have key : ∀ s : SL, (∀ x ∈ s.body, ∀ u, plS u = plS x → boundS t loc u = boundS t loc x) ∧ (∀ x ∈ s.els, ∀ u, plS u = plS x → boundS t loc u = boundS t loc x) → ∀ u, plS u = plS s → boundS t loc u = boundS t loc s := by
    intro s hi u h
    rw [plS_eq, plS_eq] at h
    simp only [PS.mk.injEq] at h
    obtain ⟨a, b, c, d, e, f⟩ := h
    obtain ⟨b1, b2⟩ := list s.body u.body hi.1 e
    obtain ⟨e1, e2⟩ := list s.els u.els hi.2 f
    obtain ⟨g1, _, g3, g4⟩ := boundEs_plain t loc s.args u.args d
    have sh : (shapeS u).1 = (shapeS s).1 := by
      rw [Bool.eq_iff_iff]
      exact ⟨fun h => shapeS_kept a.symm b.symm c.symm g3.symm (isEmpty_map e.symm) (isEmpty_map f.symm) h, fun h => shapeS_kept a b c g3 (isEmpty_map e) (isEmpty_map f) h⟩
    rw [boundS_eq, boundS_eq t loc s, b1, b2, e1, e2]
    unfold okBS
    rw [sh, thereS_kept a b c, a, g4, g1]
  have all : ∀ s : SL, (∀ x ∈ s.body, ∀ u, plS u = plS x → boundS t loc u = boundS t loc x) ∧ (∀ x ∈ s.els, ∀ u, plS u = plS x → boundS t loc u = boundS t loc x) := SL.ind fun s h1 h2 => ⟨fun x hx => key x (h1 x hx), fun x hx => key x (h2 x hx)⟩
  exact fun s => key s (all s)
theorem boundSs_plain (t : TB) (loc : Int) (l m : List SL) (h : m.map plS = l.map plS) : boundSs t loc m = boundSs t loc l := by
  induction l generalizing m with
  | nil => obtain rfl := List.map_eq_nil_iff.1 h; rfl
  | cons x r ih =>
    cases m with
    | nil => simp at h
    | cons y q =>
      simp only [List.map_cons, List.cons.injEq] at h
      rw [boundSs_cons, boundSs_cons, boundS_plain t loc x y h.1, ih q h.2]

/- a statement for a plain one -/
mutual
def upE : PE → EL
  | .mk k o m s xs => .mk k o m s none 0 0 (upEs xs)
def upEs : List PE → List EL
  | [] => []
  | x :: r => upE x :: upEs r
end
mutual
def upS : PS → SL
  | .mk k m s a b e => .mk k m s none 0 0 (upEs a) none 0 0 (upSs b) none 0 0 (upSs e)
def upSs : List PS → List SL
  | [] => []
  | x :: r => upS x :: upSs r
end
mutual
theorem plE_up : ∀ p : PE, plE (upE p) = p
  | .mk k o m s xs => by
    unfold upE plE
    rw [plEs_up xs]
theorem plEs_up : ∀ l : List PE, plEs (upEs l) = l
  | [] => by unfold upEs plEs; rfl
  | x :: r => by
    unfold upEs plEs
    rw [plE_up x, plEs_up r]
end
mutual
theorem plS_up : ∀ p : PS, plS (upS p) = p
  | .mk k m s a b e => by
    unfold upS plS
    rw [plEs_up a, plSs_up b, plSs_up e]
theorem plSs_up : ∀ l : List PS, plSs (upSs l) = l
  | [] => by unfold upSs plSs; rfl
  | x :: r => by
    unfold upSs plSs
    rw [plS_up x, plSs_up r]
end

theorem stepB_four (out : List PS) (rest : Nat) (s : PS) : stepB out rest s = out ∨ stepB out rest s = out ++ [s] ∨ stepB out rest s = out ++ s.body ∨ stepB out rest s = out ++ s.els := by
  unfold stepB
  by_cases h1 : s.args.length = 1 ∧ (s.args[0]?.getD nilP).kind = 1 ∧ s.kind = 10 ∧ wrapV (s.args[0]?.getD nilP).num = 0
  · rw [if_pos h1]; exact .inl rfl
  rw [if_neg h1]
  by_cases h2 : s.args.length = 1 ∧ (s.args[0]?.getD nilP).kind = 1 ∧ s.kind = 9
  · rw [if_pos h2]
    by_cases h4 : wrapV (s.args[0]?.getD nilP).num ≠ 0
    · rw [if_pos h4]
      by_cases h3 : 256 < out.length + s.body.length + rest
      · rw [if_pos h3]; exact .inr (.inl rfl)
      · rw [if_neg h3]; exact .inr (.inr (.inl rfl))
    · rw [if_neg h4]
      by_cases h3 : 256 < out.length + s.els.length + rest
      · rw [if_pos h3]; exact .inr (.inl rfl)
      · rw [if_neg h3]; exact .inr (.inr (.inr rfl))
  · rw [if_neg h2]; exact .inr (.inl rfl)

/-- what a folded list of statements is -/
def FoldLOk (t : TB) (loc : Int) (ss : List SL) : Prop := ∀ ys : List SL, ys.map plS = foldGo [] (ss.map plS) → depSs ys ≤ depSs ss ∧ sizeSs ys ≤ sizeSs ss ∧ (boundSs t loc ss = true → boundSs t loc ys = true)
/-- what a folded statement is -/
def FoldSOk (t : TB) (loc : Int) (s : SL) : Prop := ∀ u : SL, plS u = foldS (plS s) → depS u ≤ depS s ∧ sizeS u ≤ sizeS s ∧ (boundS t loc s = true → boundS t loc u = true)

theorem foldSOk_of (t : TB) (loc : Int) (s : SL) (h1 : FoldLOk t loc s.body) (h2 : FoldLOk t loc s.els) : FoldSOk t loc s := by
  intro u h
  rw [plS_eq s, foldS_eq, plS_eq] at h
  simp only [PS.mk.injEq, PS.kind, PS.num, PS.name, PS.args, PS.body, PS.els] at h
  obtain ⟨a, b, c, d, e, f⟩ := h
  obtain ⟨i1, i2, i3⟩ := h1 u.body e
  obtain ⟨j1, j2, j3⟩ := h2 u.els f
  obtain ⟨k1, k2, k3, k4⟩ := foldEs_kept t loc u.args s.args d
  refine ⟨by rw [depS_eq, depS_eq s]; omega, by rw [sizeS_eq, sizeS_eq s]; omega, fun hb => ?_⟩
  rw [boundS_eq] at hb ⊢
  simp only [Bool.and_eq_true, decide_eq_true_eq] at hb ⊢
  obtain ⟨⟨ha, hb1, hb2⟩, hc1, hc2⟩ := hb
  have lb : u.body.length ≤ 256 := by
    have h := congrArg List.length e
    rw [List.length_map] at h
    rw [h]
    exact foldGo_len (Nat.le_refl _) _ _ (by simpa using hb2)
  have le : u.els.length ≤ 256 := by
    have h := congrArg List.length f
    rw [List.length_map] at h
    rw [h]
    exact foldGo_len (Nat.le_refl _) _ _ (by simpa using hc2)
  refine ⟨⟨?_, i3 hb1, lb⟩, j3 hc1, le⟩
  unfold okBS at ha ⊢
  simp only [Bool.and_eq_true] at ha ⊢
  obtain ⟨⟨⟨g1, g2⟩, g3⟩, g4⟩ := ha
  refine ⟨⟨⟨shapeS_kept a b c k3 (fun h0 => ?_) (fun h0 => ?_) g1, by rw [thereS_kept a b c]; exact g2⟩, ?_⟩, ?_⟩
  · rw [h0] at e
    exact List.map_eq_nil_iff.1 (e.trans (foldGo_nil []))
  · rw [h0] at f
    exact List.map_eq_nil_iff.1 (f.trans (foldGo_nil []))
  · rw [a]
    simp only [Bool.or_eq_true, decide_eq_true_eq] at g3 ⊢
    exact g3.imp id k4
  · rw [a]
    exact k2 _ g4

theorem foldLOk_of (t : TB) (loc : Int) : ∀ (ss out ys : List SL), (∀ x ∈ ss, FoldSOk t loc x) → ys.map plS = foldGo (out.map plS) (ss.map plS) → depSs ys ≤ max (depSs out) (depSs ss) ∧ sizeSs ys ≤ sizeSs out + sizeSs ss ∧ (boundSs t loc out = true → boundSs t loc ss = true → boundSs t loc ys = true) := by
  intro ss
  induction ss with
  | nil =>
    intro out ys _ h
    rw [List.map_nil, foldGo_nil] at h
    have hs := sameSs_sizes ys out ((sameSs_pl fun x _ => sameS_pl x).2 h)
    rw [hs.1, hs.2]
    exact ⟨Nat.le_max_left _ _, Nat.le_add_right _ _, fun h1 _ => by rw [boundSs_plain t loc out ys h]; exact h1⟩
  | cons x r ih =>
    intro out ys hi h
    rw [List.map_cons, foldGo_cons] at h
    obtain ⟨u, hu⟩ : ∃ u, u = upS (foldS (plS x)) := ⟨_, rfl⟩
    have hp : plS u = foldS (plS x) := by rw [hu]; exact plS_up _
    obtain ⟨k1, k2, k3⟩ := hi x List.mem_cons_self u hp
    have hub : u.body.map plS = (foldS (plS x)).body := by rw [← hp, plS_eq u]; rfl
    have hue : u.els.map plS = (foldS (plS x)).els := by rw [← hp, plS_eq u]; rfl
    have go : ∀ out2 : List SL, out2.map plS = stepB (out.map plS) (r.map plS).length (foldS (plS x)) → depSs out2 ≤ max (depSs out) (depS x + 1) → sizeSs out2 ≤ sizeSs out + sizeS x → (boundSs t loc out = true → boundS t loc x = true → boundSs t loc out2 = true) → (depSs ys ≤ max (depSs out) (depSs (x :: r)) ∧ sizeSs ys ≤ sizeSs out + sizeSs (x :: r) ∧ (boundSs t loc out = true → boundSs t loc (x :: r) = true → boundSs t loc ys = true)) := fun out2 e g1 g2 g3 => by
      rw [← e] at h
      obtain ⟨j1, j2, j3⟩ := ih out2 ys (fun z hz => hi z (List.mem_cons_of_mem _ hz)) h
      refine ⟨?_, ?_, fun b1 b2 => ?_⟩
      · rw [depSs_cons]; omega
      · rw [sizeSs_cons]; omega
      · rw [boundSs_cons, Bool.and_eq_true] at b2
        exact j3 (g3 b1 b2.1) b2.2
    rw [depS_eq u] at k1
    rw [sizeS_eq u] at k2
    have hbu : boundS t loc x = true → boundSs t loc u.body = true ∧ boundSs t loc u.els = true := fun hb => by
      have h4 := k3 hb
      rw [boundS_eq] at h4
      simp only [Bool.and_eq_true] at h4
      exact ⟨h4.1.2.1, h4.2.1⟩
    rcases stepB_four (out.map plS) (r.map plS).length (foldS (plS x)) with g | g | g | g
    · exact go out g.symm (Nat.le_max_left _ _) (Nat.le_add_right _ _) (fun h _ => h)
    · refine go (out ++ [u]) (by rw [g, List.map_append, List.map_cons, List.map_nil, hp]) ?_ ?_ (fun b1 b2 => ?_)
      · rw [depSs_appF, depSs_cons, depS_eq u, depSs_nilF]; omega
      · rw [sizeSs_app, sizeSs_cons, sizeS_eq u, sizeSs_nilF]; omega
      · rw [boundSs_allF, List.all_append, ← boundSs_allF, ← boundSs_allF, b1, boundSs_cons, k3 b2, boundSs_nilF]; rfl
    · refine go (out ++ u.body) (by rw [g, List.map_append, hub]) ?_ ?_ (fun b1 b2 => ?_)
      · rw [depSs_appF]; omega
      · rw [sizeSs_app]; omega
      · rw [boundSs_allF, List.all_append, ← boundSs_allF, ← boundSs_allF, b1, (hbu b2).1]; rfl
    · refine go (out ++ u.els) (by rw [g, List.map_append, hue]) ?_ ?_ (fun b1 b2 => ?_)
      · rw [depSs_appF]; omega
      · rw [sizeSs_app]; omega
      · rw [boundSs_allF, List.all_append, ← boundSs_allF, ← boundSs_allF, b1, (hbu b2).2]; rfl

theorem foldLOk_from (t : TB) (loc : Int) (ss : List SL) (h : ∀ x ∈ ss, FoldSOk t loc x) : FoldLOk t loc ss := fun ys hy => by
  obtain ⟨a, b, c⟩ := foldLOk_of t loc ss [] ys h hy
  have e1 : depSs ([] : List SL) = 0 := by unfold depSs; rfl
  have e2 : sizeSs ([] : List SL) = 0 := by unfold sizeSs; rfl
  have e3 : boundSs t loc [] = true := by unfold boundSs; rfl
  rw [e1] at a
  rw [e2] at b
  exact ⟨by omega, by omega, fun h => c e3 h⟩

/-- what folding leaves of statements may be where they might have been -/
theorem foldBs_kept (t : TB) (loc : Int) (ss ys : List SL) (h : ys.map plS = foldGo [] (ss.map plS)) : sizeSs ys ≤ sizeSs ss ∧ (boundBs t loc ss = true → boundBs t loc ys = true) := by
  have key : ∀ s : SL, FoldLOk t loc s.body ∧ FoldLOk t loc s.els := SL.ind fun s h1 h2 => ⟨foldLOk_from t loc s.body fun x hx => foldSOk_of t loc x (h1 x hx).1 (h1 x hx).2, foldLOk_from t loc s.els fun x hx => foldSOk_of t loc x (h2 x hx).1 (h2 x hx).2⟩
  obtain ⟨a, b, c⟩ := foldLOk_from t loc ss (fun x _ => foldSOk_of t loc x (key x).1 (key x).2) ys h
  refine ⟨b, fun hb => ?_⟩
  unfold boundBs boundBl at hb ⊢
  simp only [Bool.and_eq_true, decide_eq_true_eq] at hb ⊢
  refine ⟨by omega, c hb.2.1, ?_⟩
  have h2 := congrArg List.length h
  rw [List.length_map] at h2
  rw [h2]
  exact foldGo_len (Nat.le_refl _) _ _ (by simpa using hb.2.2)
theorem foldB_kept (t : TB) (loc : Int) (e y : EL) (h : plE y = foldP (plE e)) : sizeE y ≤ sizeE e ∧ (boundB t loc e = true → boundB t loc y = true) := by
  obtain ⟨a, b, c, _⟩ := fold_kept t loc e y h
  refine ⟨b, fun hb => ?_⟩
  unfold boundB at hb ⊢
  simp only [Bool.and_eq_true, decide_eq_true_eq] at hb ⊢
  exact ⟨by omega, c true hb.2⟩

end

section
open Go.RowKit
set_option linter.unusedVariables false
set_option linter.unusedSimpArgs false

theorem step_storeG {P : Program} {ops : Array Oper} {o : Oper} {a : Act} {w : World} {K : Act → World → Prop} {Q : Exit → Act → World → Prop} {E : Prop} (hgd : o.guard = none) (ty : TypeId) (x y : Operand) (ho : o.op = .store ty x y)
    (g : Nat) (cells : Array Value) (hx : a.eval x = .pointer (some ⟨g, 0, none⟩)) (hy : a.eval y = .agg cells) (t : TypeId) (old : Array Value) (hg : w.heap[g]? = some (.cells old t (0, 0))) (hi : (P.info? ty).map (·.size) = some cells.size)
    (hold : old.size = cells.size) (h1 : cells.all (·.oneCell') = true) (h : K (a.put o.dst undef) (w.setRow g cells)) : if Region.wanted o (yielded ops a.tmps) = true then Oper.wp P o a w K Q else E := by
  have hw : Region.wanted o (yielded ops a.tmps) = true := by simp [Region.wanted, hgd]
  rw [if_pos hw]
  exact wp_store_row ty x y ho g cells hx hy t old hg hi hold h1 h
theorem drew_sizeG (w : World) : w.drew.heap.size = w.heap.size := rfl

theorem bit_size_FoldMay : (Try.prog.info? 34).map (·.size) = some 22 := by kernel_rfl

set_option maxRecDepth 100000 in
set_option maxHeartbeats 12800000 in
theorem foldMay_of (hE : ∀ x : EL, FoldAt 9 x) (hB : ∀ l : List SL, FoldBAt 12 l) (T : TV) (e : EL) (A : Option Addr) (n c : Nat) (ss : List SL) (loc : Int) (hloc : -9223372036854775808 ≤ loc ∧ loc ≤ 9223372036854775807) (w : World) (hT : T.In w w.heap.size) (hI : e.In w w.heap.size) (hrow : RowS6 w w.heap.size A n ss) (hins : ∀ x ∈ ss, x.In w w.heap.size) (hle : litP (plE e)) (hln : n * 104 ≤ 140737488355328) (hlb : ∀ x ∈ ss, litS (plS x)) (hs1 : sizeE e ≤ 1000000) (hs2 : sizeSs ss ≤ 1000000) :
    Calls Try.prog 4 #[.agg (T.cells ++ eCells e ++ #[.slice A n c, .int .i64 loc])] w fun f w' => f = .returned (.bool true) ∧ Below w.heap.size w w' := by
  obtain ⟨Q, hQ⟩ : ∃ Q : Bool → Prop, Q = fun b => (b = true → boundB T.tb loc e = true ∧ boundBs T.tb loc ss = true) := ⟨_, rfl⟩
  have HRT : Hid (∀ W : World, Below w.heap.size w W → Calls Try.prog 6 #[.agg (T.cells ++ eCells e ++ #[.slice A n c, .int .i64 loc])] W fun f w' => ∃ b : Bool, f = .returned (.bool b) ∧ Q b ∧ Below W.heap.size W w') := Lib.hid (fun W hb => (right18_any T e A n c ss loc hloc W ((hT.below hb).more hb.size) ((hI.below hb).more hb.size) ((hrow.below hb).more hb.size) (fun x hx => ((hins x hx).below hb).more hb.size)).mono fun f w' ⟨b, h1, h2, h3⟩ => ⟨b, h1, by rw [hQ]; exact h2, h3⟩)
  have HE1 : Hid (∀ W : World, Below w.heap.size w W → Calls Try.prog 9 #[eVal e] W fun f w' => ∃ y : EL, f = .returned (eVal y) ∧ (y.In w' w'.heap.size ∧ y.At (fun b => b < w.heap.size ∨ W.heap.size ≤ b) ∧ plE y = foldP (plE e)) ∧ Below W.heap.size W w') := Lib.hid (fun W hb => ((hE e) (fun b => b < w.heap.size) W ((hI.below hb).more hb.size) hI.atB hle).mono (by
    rintro f w' ⟨y, rfl, y1, y2, y3, hb2⟩
    exact ⟨y, rfl, ⟨y1, y2, y3⟩, hb2⟩))
  have HB1 : Hid (∀ W : World, Below w.heap.size w W → Calls Try.prog 12 #[.slice A n c] W fun f w' => ∃ (A' : Option Addr) (m c' : Nat) (ys : List SL), f = .returned (.slice A' m c') ∧ (RowS6 w' w'.heap.size A' m ys ∧ (∀ y ∈ ys, y.In w' w'.heap.size) ∧ ys.map plS = foldGo [] (ss.map plS) ∧ m * 104 ≤ 140737488355328 ∧ FreshRow W.heap.size A' m c' ∧ ∀ y ∈ ys, y.At (fun b => b < w.heap.size ∨ W.heap.size ≤ b)) ∧ Below W.heap.size W w') := Lib.hid (fun W hb => ((hB ss) (fun b => b < w.heap.size) W A n c ((hrow.below hb).more hb.size) (fun x hx => ((hins x hx).below hb).more hb.size) (fun x hx => (hins x hx).atB) (fun b h => Nat.lt_of_lt_of_le h hb.size) hln hlb).mono (by
    rintro f w' ⟨A', m, c', ys, rfl, y1, y2, y3, y4, y5, y6, hb2⟩
    exact ⟨A', m, c', ys, rfl, ⟨y1, y3, y5, y6, y2, y4⟩, hb2⟩))
  have HE := Lib.hid hE
  have HB := Lib.hid hB
  obtain ⟨p, hp⟩ : ∃ p, p = foldP (plE e) := ⟨_, rfl⟩
  obtain ⟨q, hq⟩ : ∃ q, q = foldGo [] (ss.map plS) := ⟨_, rfl⟩
  have HPI := Lib.hid (show foldP p = p from by rw [hp]; exact foldP_idem _)
  have HQI := Lib.hid (show ¬ staysPs q → foldGo [] q = q from by rw [hq]; exact foldGo_idem _)
  have HPL := Lib.hid (show litP p from by rw [hp]; exact litP_fold _ hle)
  have HQL := Lib.hid (show ∀ z ∈ q, litS z from by rw [hq]; exact litS_foldGo (ss.map plS) (fun z hz => by obtain ⟨x, hx, rfl⟩ := List.mem_map.1 hz; exact hlb x hx))
  rw [← hp] at HE1
  rw [← hq] at HB1
  obtain ⟨K1, hK1⟩ : ∃ K : Int, K = ((sizeE e : Nat) : Int) := ⟨_, rfl⟩
  obtain ⟨K2, hK2⟩ : ∃ K : Int, K = ((sizeSs ss : Nat) : Int) := ⟨_, rfl⟩
  have HTB : Hid (Q true → ∀ (W : World) (y : EL), Below w.heap.size w W → y.In W W.heap.size → plE y = p → Calls Try.prog 14 #[T.val, eVal y, .int .i64 loc] W fun f w' => f = .returned (.bool true) ∧ Below W.heap.size W w') := Lib.hid (fun hq2 W y hb hy hyp => by
    have h := tBound_any T loc hloc.2 y W ((hT.below hb).more hb.size) hy
    rw [hQ] at hq2
    rw [(foldB_kept T.tb loc e y (by rw [hyp, hp])).2 (hq2 rfl).1] at h
    exact h)
  have HTC : Hid (Q true → ∀ (W : World) (A' : Option Addr) (m c' : Nat) (ys : List SL), Below w.heap.size w W → RowS6 W W.heap.size A' m ys → (∀ x ∈ ys, x.In W W.heap.size) → ys.map plS = q → Calls Try.prog 15 #[T.val, .slice A' m c', .int .i64 loc] W fun f w' => f = .returned (.bool true) ∧ Below W.heap.size W w') := Lib.hid (fun hq2 W A' m c' ys hb hr hi hyp => by
    have h := tBoundBlock_any T loc hloc.2 ys A' m c' W ((hT.below hb).more hb.size) hr (SL.Ins.of hi)
    rw [hQ] at hq2
    rw [(foldBs_kept T.tb loc ss ys (by rw [hyp, hq])).2 (hq2 rfl).2] at h
    exact h)
  have HS1 : Hid (∀ (W : World) (y : EL), y.In W W.heap.size → plE y = p → Calls Try.prog 16 #[eVal y] W fun f w' => ∃ k : Int, f = .returned (.int .i64 k) ∧ k ≤ K1 ∧ Below W.heap.size W w') := Lib.hid (fun W y hy hyp => by
    have h := (foldB_kept T.tb loc e y (by rw [hyp, hp])).1
    exact (tSize_any y (by omega) W hy).mono fun f w' ⟨h1, h2⟩ => ⟨_, h1, by omega, h2⟩)
  have HS2 : Hid (∀ W : World, Below w.heap.size w W → Calls Try.prog 16 #[eVal e] W fun f w' => f = .returned (.int .i64 K1) ∧ Below W.heap.size W w') := Lib.hid (fun W hb => by rw [hK1]; exact tSize_any e (by omega) W ((hI.below hb).more hb.size))
  have HS3 : Hid (∀ (W : World) (A' : Option Addr) (m c' : Nat) (ys : List SL), RowS6 W W.heap.size A' m ys → (∀ x ∈ ys, x.In W W.heap.size) → ys.map plS = q → Calls Try.prog 17 #[.slice A' m c'] W fun f w' => ∃ k : Int, f = .returned (.int .i64 k) ∧ k ≤ K2 ∧ Below W.heap.size W w') := Lib.hid (fun W A' m c' ys hr hi hyp => by
    have h := (foldBs_kept T.tb loc ss ys (by rw [hyp, hq])).1
    exact (tSizeBlock_any 1000000 (by decide) ys A' m c' W (by omega) hr (SL.Ins.of hi)).mono fun f w' ⟨h1, h2⟩ => ⟨_, h1, by omega, h2⟩)
  have HS4 : Hid (∀ W : World, Below w.heap.size w W → Calls Try.prog 17 #[.slice A n c] W fun f w' => f = .returned (.int .i64 K2) ∧ Below W.heap.size W w') := Lib.hid (fun W hb => by rw [hK2]; exact tSizeBlock_any 1000000 (by decide) ss A n c W hs2 ((hrow.below hb).more hb.size) (SL.Ins.of fun x hx => ((hins x hx).below hb).more hb.size))
  clear hK1 hK2
  clear hE hB hT hI hrow hins hle hln hlb hp hq hQ hloc hs1 hs2
  obtain ⟨t1, t2, t3, t4, S1, m1, k1, fl, S2, m2, k2, S3, m3, k3, S4, m4, k4, S5, m5, k5, S6, m6, k6, S7, m7, k7, S8, m8, k8, S9, m9, k9, S10, m10, k10, fs, ps⟩ := T
  obtain ⟨k, o, m, s, B, bn, bc, es⟩ := e
  simp only [TV.val, TV.cells] at HTB HTC
  simp only [eVal, eCells, EL.kind, EL.op, EL.num, EL.name, EL.A, EL.n, EL.c] at HS2
  simp only [TV.cells, eVal, eCells, EL.kind, EL.op, EL.num, EL.name, EL.A, EL.n, EL.c] at HE1 HRT ⊢
  have HR2 : Hid (∀ W : World, Below w.heap.size w W → Calls Try.prog 6 #[.agg #[.int .i64 t1, .int .i64 t2, .int .i64 t3, .int .i64 t4, .slice S1 m1 k1, .int .i64 fl, .slice S2 m2 k2, .slice S3 m3 k3, .slice S4 m4 k4, .slice S5 m5 k5, .slice S6 m6 k6, .slice S7 m7 k7, .slice S8 m8 k8, .slice S9 m9 k9, .slice S10 m10 k10, .int .i64 k, .int .i64 o, .int .i64 m, .string (bs s), .slice B bn bc, .slice A n c, .int .i64 loc]] W fun f w' => ∃ b : Bool, f = .returned (.bool b) ∧ Q b ∧ Below W.heap.size W w') := HRT
  clear HRT
  show Calls Try.prog _ #[.agg #[.int .i64 t1, .int .i64 t2, .int .i64 t3, .int .i64 t4, .slice S1 m1 k1, .int .i64 fl, .slice S2 m2 k2, .slice S3 m3 k3, .slice S4 m4 k4, .slice S5 m5 k5, .slice S6 m6 k6, .slice S7 m7 k7, .slice S8 m8 k8, .slice S9 m9 k9, .slice S10 m10 k10, .int .i64 k, .int .i64 o, .int .i64 m, .string (bs s), .slice B bn bc, .slice A n c, .int .i64 loc]] w _
  obtain ⟨W, hW⟩ : ∃ W, W = w.alloc (.cells #[.int .i64 t1, .int .i64 t2, .int .i64 t3, .int .i64 t4, .slice S1 m1 k1, .int .i64 fl, .slice S2 m2 k2, .slice S3 m3 k3, .slice S4 m4 k4, .slice S5 m5 k5, .slice S6 m6 k6, .slice S7 m7 k7, .slice S8 m8 k8, .slice S9 m9 k9, .slice S10 m10 k10, .int .i64 k, .int .i64 o, .int .i64 m, .string (bs s), .slice B bn bc, .slice A n c, .int .i64 loc] 34) := ⟨_, rfl⟩
  have HBW : Hid (Below w.heap.size w W) := Lib.hid (by rw [hW]; exact (Below.refl _ _).alloc (Nat.le_refl _) _)
  have HK : Hid (Blk W w.heap.size 34 #[.int .i64 t1, .int .i64 t2, .int .i64 t3, .int .i64 t4, .slice S1 m1 k1, .int .i64 fl, .slice S2 m2 k2, .slice S3 m3 k3, .slice S4 m4 k4, .slice S5 m5 k5, .slice S6 m6 k6, .slice S7 m7 k7, .slice S8 m8 k8, .slice S9 m9 k9, .slice S10 m10 k10, .int .i64 k, .int .i64 o, .int .i64 m, .string (bs s), .slice B bn bc, .slice A n c, .int .i64 loc]) := Lib.hid (by rw [hW]; exact Blk.new _ _ _)
  go_enter Try.func4, Try.ntmps4
  go_wp2_with (first | (refine wpList_load_row rfl 34 _ rfl w.heap.size rfl 34 #[.int .i64 t1, .int .i64 t2, .int .i64 t3, .int .i64 t4, .slice S1 m1 k1, .int .i64 fl, .slice S2 m2 k2, .slice S3 m3 k3, .slice S4 m4 k4, .slice S5 m5 k5, .slice S6 m6 k6, .slice S7 m7 k7, .slice S8 m8 k8, .slice S9 m9 k9, .slice S10 m10 k10, .int .i64 k, .int .i64 o, .int .i64 m, .string (bs s), .slice B bn bc, .slice A n c, .int .i64 loc] (0, 0) _ (Blk.new w _ _) Try.underlying34 rfl bit_size_FoldMay ?_) | fail)
  rw [← hW]
  clear hW
  refine (HR2.out W HBW.out).mono ?_
  rintro f w1 ⟨b, rfl, hbt, hb1⟩
  have HBT := Lib.hid hbt
  clear hbt
  have HX1 := Lib.hid (HBW.out.trans (hb1.mono HBW.out.size))
  have HW1 := Lib.hid hb1
  clear hb1
  cases b with
  | false =>
    go_wp2_with fail
    refine (awake18_of HE.out HB.out w1).mono ?_
    rintro f w2 ⟨rfl, hb2⟩
    go_wp2_with fail
    go_ret
    exact ⟨rfl, HX1.out.trans (hb2.mono HX1.out.size)⟩
  | true =>
    have hcx : Hid (∀ u : World, Below w1.heap.size w1 u → u.cell? ⟨w.heap.size, 15, none⟩ = some (.int .i64 k) ∧ u.cell? ⟨w.heap.size, 16, none⟩ = some (.int .i64 o) ∧ u.cell? ⟨w.heap.size, 17, none⟩ = some (.int .i64 m) ∧ u.cell? ⟨w.heap.size, 18, none⟩ = some (.string (bs s)) ∧ u.cell? ⟨w.heap.size, 19, none⟩ = some (.slice B bn bc) ∧ u.cell? ⟨w.heap.size, 20, none⟩ = some (.slice A n c)) := Lib.hid (fun u hb => by
      have hk2 := (HK.out.below HW1.out HK.out.lt).below hb (HK.out.below HW1.out HK.out.lt).lt
      exact ⟨hk2.cell 15, hk2.cell 16, hk2.cell 17, hk2.cell 18, hk2.cell 19, hk2.cell 20⟩)
    go_wp2_with fail
    refine wp_region_held_drew (S := Below w1.heap.size w1) (by kernel_rfl) (Below.refl _ _).drew (fun hHeld => ?_)
    refine held_take (i := 0) (fuel := 8) (v := ?_) (by rw [List.getElem?_toArray]; rfl) (by kernel_rfl) (by kernel_rfl) (by kernel_rfl) hHeld ?_ ?_ ?_ ?_
    rotate_left
    · intro u hSw
      go_simp
      try with_reducible rfl
    · rfl
    · exact fun _ _ _ h => h
    try simp only [Act.put, List.setIfInBounds_toArray, List.set_cons_zero, List.set_cons_succ]
    refine held_take (i := 1) (fuel := 7) (v := ?_) (by rw [List.getElem?_toArray]; rfl) (by kernel_rfl) (by kernel_rfl) (by kernel_rfl) hHeld ?_ ?_ ?_ ?_
    rotate_left
    · intro u hSw
      obtain ⟨c0, c1, c2, c3, c4, c5⟩ := hcx.out u hSw
      go_simp
      try with_reducible rfl
    · rfl
    · exact fun _ _ _ h => h
    try simp only [Act.put, List.setIfInBounds_toArray, List.set_cons_zero, List.set_cons_succ]
    refine held_take (i := 3) (fuel := 6) (v := ?_) (by rw [List.getElem?_toArray]; rfl) (by kernel_rfl) (by kernel_rfl) (by kernel_rfl) hHeld ?_ ?_ ?_ ?_
    rotate_left
    · intro u hSw
      go_simp
      try with_reducible rfl
    · rfl
    · exact fun _ _ _ h => h
    try simp only [Act.put, List.setIfInBounds_toArray, List.set_cons_zero, List.set_cons_succ]
    refine held_take (i := 4) (fuel := 5) (v := ?_) (by rw [List.getElem?_toArray]; rfl) (by kernel_rfl) (by kernel_rfl) (by kernel_rfl) hHeld ?_ ?_ ?_ ?_
    rotate_left
    · intro u hSw
      obtain ⟨c0, c1, c2, c3, c4, c5⟩ := hcx.out u hSw
      go_simp
      try with_reducible rfl
    · rfl
    · exact fun _ _ _ h => h
    try simp only [Act.put, List.setIfInBounds_toArray, List.set_cons_zero, List.set_cons_succ]
    refine wpAnyH_ready (rs := [2, 6]) (fuel := 4) (by kernel_rfl) (by simp) ?_
    refine AllReadyH.cons (by rw [List.getElem?_toArray]; rfl) (fun K hK => ?_) ?_
    ·
      go_simp
      refine (HE1.out _ (HX1.out.trans (hHeld.mono HX1.out.size))).mono ?_
      rintro f w2 ⟨y, rfl, hy, hb2⟩
      have Hy := Lib.hid hy
      clear hy
      refine hK.out _ _ ?_ (fun hHeld => ?_)
      · exact hHeld.trans (hb2.mono hHeld.size)
      clear hK K
      try simp only [Act.put, List.setIfInBounds_toArray, List.set_cons_zero, List.set_cons_succ]
      have HD2 := Lib.hid hb2
      clear hb2
      refine wpAnyH_ready (rs := [5, 6]) (fuel := 3) (by kernel_rfl) (by simp) ?_
      refine AllReadyH.cons (by rw [List.getElem?_toArray]; rfl) (fun K hK => ?_) ?_
      ·
        go_simp
        refine (HB1.out _ (HX1.out.trans (hHeld.mono HX1.out.size))).mono ?_
        rintro f w3 ⟨ysA, ysm, ysc, ys, rfl, hy, hb3⟩
        have Hys := Lib.hid hy
        clear hy
        refine hK.out _ _ ?_ (fun hHeld => ?_)
        · exact hHeld.trans (hb3.mono hHeld.size)
        clear hK K
        try simp only [Act.put, List.setIfInBounds_toArray, List.set_cons_zero, List.set_cons_succ]
        have HD3 := Lib.hid hb3
        clear hb3
        refine held_one (i := 6) (fuel := 2) (by kernel_rfl) (by rw [List.getElem?_toArray]; rfl) (fun K hK => ?_)
        go_simp
        refine hK.out _ _ ?_ (fun hHeld => ?_)
        · exact hHeld.alloc hHeld.size _
        clear hK K
        try simp only [Act.put, List.setIfInBounds_toArray, List.set_cons_zero, List.set_cons_succ]
        obtain ⟨wa, hwa⟩ : ∃ W, W = w3.alloc (.cells #[.int .i64 0, .int .i64 0, .int .i64 0, .string ⟨#[]⟩, .slice none 0 0] 31) := ⟨_, rfl⟩
        rw [← hwa] at hHeld
        rw [← hwa]
        have HKA : Hid (Blk wa w3.heap.size 31 #[.int .i64 0, .int .i64 0, .int .i64 0, .string ⟨#[]⟩, .slice none 0 0]) := Lib.hid (by rw [hwa]; exact Blk.new _ _ _)
        have HDA : Hid (Below w3.heap.size w3 wa) := Lib.hid (by rw [hwa]; exact (Below.refl _ _).alloc (Nat.le_refl _) _)
        have HSA : Hid (wa.heap.size = w3.heap.size + 1) := Lib.hid (by rw [hwa]; simp)
        clear hwa
        refine held_one (i := 7) (fuel := 1) (by kernel_rfl) (by rw [List.getElem?_toArray]; rfl) (fun K hK => ?_)
        obtain ⟨g, hg⟩ : ∃ g, g = w3.heap.size := ⟨_, rfl⟩
        have hgw : w.heap.size ≤ g ∧ w1.heap.size ≤ g := by have := HX1.out.size; have := hHeld.size; have := HD2.out.size; have := HD3.out.size; have : w1.drew.heap.size = w1.heap.size := rfl; omega
        have hkl : Blk wa g 31 #[.int .i64 0, .int .i64 0, .int .i64 0, .string ⟨#[]⟩, .slice none 0 0] := by rw [hg]; exact HKA.out
        have hyl : y.In wa wa.heap.size := ((((Hy.out.1.below HD3.out).more HD3.out.size).below HDA.out).more HDA.out.size)
        have hya : y.At (fun b => b ≠ g) := (Hy.out.2.1.and Hy.out.1.atB).mono (fun b hb => by have := HSA.out; have := HD3.out.size; have : w1.drew.heap.size = w1.heap.size := rfl; omega)
        have hsl : RowS6 wa wa.heap.size ysA ysm ys := ((Hys.out.1.below HDA.out).more HDA.out.size)
        have hsi : ∀ x ∈ ys, x.In wa wa.heap.size := fun x hx => (((Hys.out.2.1 x hx).below HDA.out).more HDA.out.size)
        have hsa : ∀ x ∈ ys, x.At (fun b => b ≠ g) := fun x hx => ((Hys.out.2.2.2.2.2 x hx).and (Hys.out.2.1 x hx).atB).mono (fun b hb => by have := HSA.out; have := HD2.out.size; have := HD3.out.size; have : w1.drew.heap.size = w1.heap.size := rfl; omega)
        have hsr : 0 < ysm → ∀ ad : Addr, ysA = some ad → ad.block ≠ g := fun hm ad e => by
          have h1 := (Hys.out.2.2.2.2.1.2 ad e).1
          obtain ⟨ad', e', h2, _⟩ := Hys.out.1.2.2 hm
          rw [e] at e'
          obtain rfl : ad = ad' := by injection e'
          have := HSA.out; have := HD2.out.size; have := HD3.out.size; have : w1.drew.heap.size = w1.heap.size := rfl; omega
        have hyp := Hy.out.2.2
        have hsp := Hys.out.2.2.1
        have hsm := Hys.out.2.2.2.1
        subst hg
        refine step_storeG (by rfl) 31 _ _ (by rfl) (w3.heap.size) (eCells y) (by rfl) (by rfl) 31 #[.int .i64 0, .int .i64 0, .int .i64 0, .string ⟨#[]⟩, .slice none 0 0] hkl expr_size rfl (expr_one _ _ _ _ _ _ _) ?_
        refine hK.out _ _ ?_ (fun hHeld => ?_)
        · exact below_setRow hHeld hgw.2 _
        clear hK K
        try simp only [Act.put, List.setIfInBounds_toArray, List.set_cons_zero, List.set_cons_succ]
        obtain ⟨Z, hZ⟩ : ∃ Z, Z = wa.setRow (w3.heap.size) (eCells y) := ⟨_, rfl⟩
        rw [← hZ] at hHeld
        rw [← hZ]
        have hk : ∀ p : Addr, p.block ≠ w3.heap.size → Z.cell? p = wa.cell? p := fun p hp => by rw [hZ]; exact cell_of_heap (setRow_other _ _ _ _ hp)
        have hzs : Z.heap.size = wa.heap.size := by rw [hZ]; simp
        have HKZ : Hid (Blk Z (w3.heap.size) 31 (eCells y)) := Lib.hid (by rw [hZ]; exact setRow_heap _ _ _ _ _ _ hkl)
        have HYZ : Hid (y.In Z Z.heap.size ∧ plE y = p) := Lib.hid ⟨hyl.keepS (S := fun b => b ≠ w3.heap.size) (by omega) (fun p hp _ => hk p hp) hya, hyp⟩
        have HSZ : Hid (RowS6 Z Z.heap.size ysA ysm ys ∧ (∀ x ∈ ys, x.In Z Z.heap.size) ∧ ys.map plS = q ∧ ysm * 104 ≤ 140737488355328) := Lib.hid ⟨hsl.keepS (S := fun b => b ≠ w3.heap.size) hsr (by omega) (fun p hp _ => hk p hp), fun x hx => (hsi x hx).keepS (S := fun b => b ≠ w3.heap.size) (by omega) (fun p hp _ => hk p hp) (hsa x hx), hsp, hsm⟩
        have HZX : Hid (Below w.heap.size w Z) := Lib.hid (HX1.out.trans (hHeld.mono HX1.out.size))
        clear hk hzs hZ hyl hya hsl hsi hsa hsr hyp hsp hsm hkl hgw
        obtain ⟨yk, yo, ym, yS, yA, yn, yc, yes⟩ := y
        have hcz : Hid (∀ u : World, Below Z.heap.size Z u → u.cell? ⟨w3.heap.size, 0, none⟩ = some (.int .i64 yk) ∧ u.cell? ⟨w3.heap.size, 1, none⟩ = some (.int .i64 yo) ∧ u.cell? ⟨w3.heap.size, 2, none⟩ = some (.int .i64 ym) ∧ u.cell? ⟨w3.heap.size, 3, none⟩ = some (.string (bs yS)) ∧ u.cell? ⟨w3.heap.size, 4, none⟩ = some (.slice yA yn yc)) := Lib.hid (fun u hb => by
          have hk2 := HKZ.out.below hb HKZ.out.lt
          exact ⟨hk2.cell 0, hk2.cell 1, hk2.cell 2, hk2.cell 3, hk2.cell 4⟩)
        refine held_take (i := 8) (fuel := 0) (v := ?_) (by rw [List.getElem?_toArray]; rfl) (by kernel_rfl) (by kernel_rfl) (by kernel_rfl) hHeld ?_ ?_ ?_ ?_
        rotate_left
        · intro u hSw
          go_simp
          try with_reducible rfl
        · rfl
        · exact fun _ _ _ h => h
        try simp only [Act.put, List.setIfInBounds_toArray, List.set_cons_zero, List.set_cons_succ]
        refine wpAnyH_done (by kernel_rfl) ?_ _
        go_wp2_with fail
        have HWZ := Lib.hid hHeld
        clear hHeld
        have hcw : Hid (∀ u : World, Below Z.heap.size Z u → u.cell? ⟨w.heap.size, 0, none⟩ = some (.int .i64 t1) ∧ u.cell? ⟨w.heap.size, 1, none⟩ = some (.int .i64 t2) ∧ u.cell? ⟨w.heap.size, 2, none⟩ = some (.int .i64 t3) ∧ u.cell? ⟨w.heap.size, 3, none⟩ = some (.int .i64 t4) ∧ u.cell? ⟨w.heap.size, 4, none⟩ = some (.slice S1 m1 k1) ∧ u.cell? ⟨w.heap.size, 5, none⟩ = some (.int .i64 fl) ∧ u.cell? ⟨w.heap.size, 6, none⟩ = some (.slice S2 m2 k2) ∧ u.cell? ⟨w.heap.size, 7, none⟩ = some (.slice S3 m3 k3) ∧ u.cell? ⟨w.heap.size, 8, none⟩ = some (.slice S4 m4 k4) ∧ u.cell? ⟨w.heap.size, 9, none⟩ = some (.slice S5 m5 k5) ∧ u.cell? ⟨w.heap.size, 10, none⟩ = some (.slice S6 m6 k6) ∧ u.cell? ⟨w.heap.size, 11, none⟩ = some (.slice S7 m7 k7) ∧ u.cell? ⟨w.heap.size, 12, none⟩ = some (.slice S8 m8 k8) ∧ u.cell? ⟨w.heap.size, 13, none⟩ = some (.slice S9 m9 k9) ∧ u.cell? ⟨w.heap.size, 14, none⟩ = some (.slice S10 m10 k10) ∧ u.cell? ⟨w.heap.size, 15, none⟩ = some (.int .i64 k) ∧ u.cell? ⟨w.heap.size, 16, none⟩ = some (.int .i64 o) ∧ u.cell? ⟨w.heap.size, 17, none⟩ = some (.int .i64 m) ∧ u.cell? ⟨w.heap.size, 18, none⟩ = some (.string (bs s)) ∧ u.cell? ⟨w.heap.size, 19, none⟩ = some (.slice B bn bc) ∧ u.cell? ⟨w.heap.size, 20, none⟩ = some (.slice A n c) ∧ u.cell? ⟨w.heap.size, 21, none⟩ = some (.int .i64 loc)) := Lib.hid (fun u hb => by
          have hk1 := (HK.out.below HW1.out HK.out.lt).below HWZ.out (HK.out.below HW1.out HK.out.lt).lt
          have hk2 := hk1.below hb hk1.lt
          exact ⟨hk2.cell 0, hk2.cell 1, hk2.cell 2, hk2.cell 3, hk2.cell 4, hk2.cell 5, hk2.cell 6, hk2.cell 7, hk2.cell 8, hk2.cell 9, hk2.cell 10, hk2.cell 11, hk2.cell 12, hk2.cell 13, hk2.cell 14, hk2.cell 15, hk2.cell 16, hk2.cell 17, hk2.cell 18, hk2.cell 19, hk2.cell 20, hk2.cell 21⟩)
        refine wp_region_held_drew (S := Below Z.heap.size Z) (by kernel_rfl) (Below.refl _ _).drew (fun hHeld => ?_)
        refine held_take (i := 0) (fuel := 33) (v := ?_) (by rw [List.getElem?_toArray]; rfl) (by kernel_rfl) (by kernel_rfl) (by kernel_rfl) hHeld ?_ ?_ ?_ ?_
        rotate_left
        · intro u hSw
          go_simp
          try with_reducible rfl
        · rfl
        · exact fun _ _ _ h => h
        try simp only [Act.put, List.setIfInBounds_toArray, List.set_cons_zero, List.set_cons_succ]
        refine held_take (i := 1) (fuel := 32) (v := ?_) (by rw [List.getElem?_toArray]; rfl) (by kernel_rfl) (by kernel_rfl) (by kernel_rfl) hHeld ?_ ?_ ?_ ?_
        rotate_left
        · intro u hSw
          obtain ⟨c0, c1, c2, c3, c4, c5, c6, c7, c8, c9, c10, c11, c12, c13, c14, c15, c16, c17, c18, c19, c20, c21⟩ := hcw.out u hSw
          go_simp
          try with_reducible rfl
        · rfl
        · exact fun _ _ _ h => h
        try simp only [Act.put, List.setIfInBounds_toArray, List.set_cons_zero, List.set_cons_succ]
        refine held_take (i := 2) (fuel := 31) (v := ?_) (by rw [List.getElem?_toArray]; rfl) (by kernel_rfl) (by kernel_rfl) (by kernel_rfl) hHeld ?_ ?_ ?_ ?_
        rotate_left
        · intro u hSw
          obtain ⟨c0, c1, c2, c3, c4⟩ := hcz.out u hSw
          go_simp
          try with_reducible rfl
        · rfl
        · exact fun _ _ _ h => h
        try simp only [Act.put, List.setIfInBounds_toArray, List.set_cons_zero, List.set_cons_succ]
        refine held_take (i := 3) (fuel := 30) (v := ?_) (by rw [List.getElem?_toArray]; rfl) (by kernel_rfl) (by kernel_rfl) (by kernel_rfl) hHeld ?_ ?_ ?_ ?_
        rotate_left
        · intro u hSw
          go_simp
          try with_reducible rfl
        · rfl
        · exact fun _ _ _ h => h
        try simp only [Act.put, List.setIfInBounds_toArray, List.set_cons_zero, List.set_cons_succ]
        refine held_take (i := 4) (fuel := 29) (v := ?_) (by rw [List.getElem?_toArray]; rfl) (by kernel_rfl) (by kernel_rfl) (by kernel_rfl) hHeld ?_ ?_ ?_ ?_
        rotate_left
        · intro u hSw
          obtain ⟨c0, c1, c2, c3, c4, c5, c6, c7, c8, c9, c10, c11, c12, c13, c14, c15, c16, c17, c18, c19, c20, c21⟩ := hcw.out u hSw
          go_simp
          try with_reducible rfl
        · rfl
        · exact fun _ _ _ h => h
        try simp only [Act.put, List.setIfInBounds_toArray, List.set_cons_zero, List.set_cons_succ]
        refine held_one (i := 5) (fuel := 28) (by kernel_rfl) (by rw [List.getElem?_toArray]; rfl) (fun K hK => ?_)
        go_simp
        refine (HTB.out HBT.out _ (EL.mk yk yo ym yS yA yn yc yes) (HZX.out.trans (hHeld.mono HZX.out.size)) ((HYZ.out.1.below hHeld).more hHeld.size) HYZ.out.2).mono ?_
        rintro f w4 ⟨rfl, hb4⟩
        refine hK.out _ _ ?_ (fun hHeld => ?_)
        · exact hHeld.trans (hb4.mono hHeld.size)
        clear hK K
        try simp only [Act.put, List.setIfInBounds_toArray, List.set_cons_zero, List.set_cons_succ]
        clear hb4
        refine held_take (i := 6) (fuel := 27) (v := ?_) (by rw [List.getElem?_toArray]; rfl) (by kernel_rfl) (by kernel_rfl) (by kernel_rfl) hHeld ?_ ?_ ?_ ?_
        rotate_left
        · intro u hSw
          go_simp
          try with_reducible rfl
        · rfl
        · exact fun _ _ _ h => h
        try simp only [Act.put, List.setIfInBounds_toArray, List.set_cons_zero, List.set_cons_succ]
        refine held_take (i := 7) (fuel := 26) (v := ?_) (by rw [List.getElem?_toArray]; rfl) (by kernel_rfl) (by kernel_rfl) (by kernel_rfl) hHeld ?_ ?_ ?_ ?_
        rotate_left
        · intro u hSw
          go_simp
          try with_reducible rfl
        · rfl
        · exact fun _ _ _ h => h
        try simp only [Act.put, List.setIfInBounds_toArray, List.set_cons_zero, List.set_cons_succ]
        refine held_take (i := 8) (fuel := 25) (v := ?_) (by rw [List.getElem?_toArray]; rfl) (by kernel_rfl) (by kernel_rfl) (by kernel_rfl) hHeld ?_ ?_ ?_ ?_
        rotate_left
        · intro u hSw
          obtain ⟨c0, c1, c2, c3, c4, c5, c6, c7, c8, c9, c10, c11, c12, c13, c14, c15, c16, c17, c18, c19, c20, c21⟩ := hcw.out u hSw
          go_simp
          try with_reducible rfl
        · rfl
        · exact fun _ _ _ h => h
        try simp only [Act.put, List.setIfInBounds_toArray, List.set_cons_zero, List.set_cons_succ]
        refine held_take (i := 9) (fuel := 24) (v := ?_) (by rw [List.getElem?_toArray]; rfl) (by kernel_rfl) (by kernel_rfl) (by kernel_rfl) hHeld ?_ ?_ ?_ ?_
        rotate_left
        · intro u hSw
          go_simp
          try with_reducible rfl
        · rfl
        · exact fun _ _ _ h => h
        try simp only [Act.put, List.setIfInBounds_toArray, List.set_cons_zero, List.set_cons_succ]
        refine held_take (i := 10) (fuel := 23) (v := ?_) (by rw [List.getElem?_toArray]; rfl) (by kernel_rfl) (by kernel_rfl) (by kernel_rfl) hHeld ?_ ?_ ?_ ?_
        rotate_left
        · intro u hSw
          go_simp
          try with_reducible rfl
        · rfl
        · exact fun _ _ _ h => h
        try simp only [Act.put, List.setIfInBounds_toArray, List.set_cons_zero, List.set_cons_succ]
        refine held_take (i := 11) (fuel := 22) (v := ?_) (by rw [List.getElem?_toArray]; rfl) (by kernel_rfl) (by kernel_rfl) (by kernel_rfl) hHeld ?_ ?_ ?_ ?_
        rotate_left
        · intro u hSw
          obtain ⟨c0, c1, c2, c3, c4, c5, c6, c7, c8, c9, c10, c11, c12, c13, c14, c15, c16, c17, c18, c19, c20, c21⟩ := hcw.out u hSw
          go_simp
          try with_reducible rfl
        · rfl
        · exact fun _ _ _ h => h
        try simp only [Act.put, List.setIfInBounds_toArray, List.set_cons_zero, List.set_cons_succ]
        refine held_one (i := 12) (fuel := 21) (by kernel_rfl) (by rw [List.getElem?_toArray]; rfl) (fun K hK => ?_)
        go_simp
        refine (HTC.out HBT.out _ ysA ysm ysc ys (HZX.out.trans (hHeld.mono HZX.out.size)) ((HSZ.out.1.below hHeld).more hHeld.size) (fun x hx => ((HSZ.out.2.1 x hx).below hHeld).more hHeld.size) HSZ.out.2.2.1).mono ?_
        rintro f w5 ⟨rfl, hb5⟩
        refine hK.out _ _ ?_ (fun hHeld => ?_)
        · exact hHeld.trans (hb5.mono hHeld.size)
        clear hK K
        try simp only [Act.put, List.setIfInBounds_toArray, List.set_cons_zero, List.set_cons_succ]
        clear hb5
        refine held_take (i := 13) (fuel := 20) (v := ?_) (by rw [List.getElem?_toArray]; rfl) (by kernel_rfl) (by kernel_rfl) (by kernel_rfl) hHeld ?_ ?_ ?_ ?_
        rotate_left
        · intro u hSw
          go_simp
          try with_reducible rfl
        · rfl
        · exact fun _ _ _ h => h
        try simp only [Act.put, List.setIfInBounds_toArray, List.set_cons_zero, List.set_cons_succ]
        refine held_take (i := 14) (fuel := 19) (v := ?_) (by rw [List.getElem?_toArray]; rfl) (by kernel_rfl) (by kernel_rfl) (by kernel_rfl) hHeld ?_ ?_ ?_ ?_
        rotate_left
        · intro u hSw
          go_simp
          try with_reducible rfl
        · rfl
        · exact fun _ _ _ h => h
        try simp only [Act.put, List.setIfInBounds_toArray, List.set_cons_zero, List.set_cons_succ]
        refine held_take (i := 15) (fuel := 18) (v := ?_) (by rw [List.getElem?_toArray]; rfl) (by kernel_rfl) (by kernel_rfl) (by kernel_rfl) hHeld ?_ ?_ ?_ ?_
        rotate_left
        · intro u hSw
          obtain ⟨c0, c1, c2, c3, c4⟩ := hcz.out u hSw
          go_simp
          try with_reducible rfl
        · rfl
        · exact fun _ _ _ h => h
        try simp only [Act.put, List.setIfInBounds_toArray, List.set_cons_zero, List.set_cons_succ]
        refine held_take (i := 17) (fuel := 17) (v := ?_) (by rw [List.getElem?_toArray]; rfl) (by kernel_rfl) (by kernel_rfl) (by kernel_rfl) hHeld ?_ ?_ ?_ ?_
        rotate_left
        · intro u hSw
          go_simp
          try with_reducible rfl
        · rfl
        · exact fun _ _ _ h => h
        try simp only [Act.put, List.setIfInBounds_toArray, List.set_cons_zero, List.set_cons_succ]
        refine held_take (i := 18) (fuel := 16) (v := ?_) (by rw [List.getElem?_toArray]; rfl) (by kernel_rfl) (by kernel_rfl) (by kernel_rfl) hHeld ?_ ?_ ?_ ?_
        rotate_left
        · intro u hSw
          obtain ⟨c0, c1, c2, c3, c4, c5, c6, c7, c8, c9, c10, c11, c12, c13, c14, c15, c16, c17, c18, c19, c20, c21⟩ := hcw.out u hSw
          go_simp
          try with_reducible rfl
        · rfl
        · exact fun _ _ _ h => h
        try simp only [Act.put, List.setIfInBounds_toArray, List.set_cons_zero, List.set_cons_succ]
        refine held_one (i := 16) (fuel := 15) (by kernel_rfl) (by rw [List.getElem?_toArray]; rfl) (fun K hK => ?_)
        go_simp
        refine (HS1.out _ (EL.mk yk yo ym yS yA yn yc yes) ((HYZ.out.1.below hHeld).more hHeld.size) HYZ.out.2).mono ?_
        rintro f w6 ⟨s1, rfl, hs1, hb6⟩
        refine hK.out _ _ ?_ (fun hHeld => ?_)
        · exact hHeld.trans (hb6.mono hHeld.size)
        clear hK K
        try simp only [Act.put, List.setIfInBounds_toArray, List.set_cons_zero, List.set_cons_succ]
        clear hb6
        refine held_one (i := 19) (fuel := 14) (by kernel_rfl) (by rw [List.getElem?_toArray]; rfl) (fun K hK => ?_)
        go_simp
        refine (HS2.out _ (HZX.out.trans (hHeld.mono HZX.out.size))).mono ?_
        rintro f w7 ⟨rfl, hb7⟩
        refine hK.out _ _ ?_ (fun hHeld => ?_)
        · exact hHeld.trans (hb7.mono hHeld.size)
        clear hK K
        try simp only [Act.put, List.setIfInBounds_toArray, List.set_cons_zero, List.set_cons_succ]
        clear hb7
        refine held_take (i := 20) (fuel := 13) (v := ?_) (by rw [List.getElem?_toArray]; rfl) (by kernel_rfl) (by kernel_rfl) (by kernel_rfl) hHeld ?_ ?_ ?_ ?_
        rotate_left
        · intro u hSw
          go_simp
          try with_reducible rfl
        · rfl
        · exact fun _ _ _ h => h
        try simp only [Act.put, List.setIfInBounds_toArray, List.set_cons_zero, List.set_cons_succ]
        refine held_take (i := 21) (fuel := 12) (v := ?_) (by rw [List.getElem?_toArray]; rfl) (by kernel_rfl) (by kernel_rfl) (by kernel_rfl) hHeld ?_ ?_ ?_ ?_
        rotate_left
        · intro u hSw
          go_simp
          try with_reducible rfl
        · rfl
        · exact fun _ _ _ h => h
        try simp only [Act.put, List.setIfInBounds_toArray, List.set_cons_zero, List.set_cons_succ]
        refine held_take (i := 22) (fuel := 11) (v := ?_) (by rw [List.getElem?_toArray]; rfl) (by kernel_rfl) (by kernel_rfl) (by kernel_rfl) hHeld ?_ ?_ ?_ ?_
        rotate_left
        · intro u hSw
          go_simp
          try with_reducible rfl
        · rfl
        · exact fun _ _ _ h => h
        try simp only [Act.put, List.setIfInBounds_toArray, List.set_cons_zero, List.set_cons_succ]
        refine held_take (i := 23) (fuel := 10) (v := ?_) (by rw [List.getElem?_toArray]; rfl) (by kernel_rfl) (by kernel_rfl) (by kernel_rfl) hHeld ?_ ?_ ?_ ?_
        rotate_left
        · intro u hSw
          go_simp
          try with_reducible rfl
        · rfl
        · exact fun _ _ _ h => h
        try simp only [Act.put, List.setIfInBounds_toArray, List.set_cons_zero, List.set_cons_succ]
        refine held_take (i := 25) (fuel := 9) (v := ?_) (by rw [List.getElem?_toArray]; rfl) (by kernel_rfl) (by kernel_rfl) (by kernel_rfl) hHeld ?_ ?_ ?_ ?_
        rotate_left
        · intro u hSw
          go_simp
          try with_reducible rfl
        · rfl
        · exact fun _ _ _ h => h
        try simp only [Act.put, List.setIfInBounds_toArray, List.set_cons_zero, List.set_cons_succ]
        refine held_take (i := 26) (fuel := 8) (v := ?_) (by rw [List.getElem?_toArray]; rfl) (by kernel_rfl) (by kernel_rfl) (by kernel_rfl) hHeld ?_ ?_ ?_ ?_
        rotate_left
        · intro u hSw
          obtain ⟨c0, c1, c2, c3, c4, c5, c6, c7, c8, c9, c10, c11, c12, c13, c14, c15, c16, c17, c18, c19, c20, c21⟩ := hcw.out u hSw
          go_simp
          try with_reducible rfl
        · rfl
        · exact fun _ _ _ h => h
        try simp only [Act.put, List.setIfInBounds_toArray, List.set_cons_zero, List.set_cons_succ]
        refine held_one (i := 24) (fuel := 7) (by kernel_rfl) (by rw [List.getElem?_toArray]; rfl) (fun K hK => ?_)
        go_simp
        refine (HS3.out _ ysA ysm ysc ys ((HSZ.out.1.below hHeld).more hHeld.size) (fun x hx => ((HSZ.out.2.1 x hx).below hHeld).more hHeld.size) HSZ.out.2.2.1).mono ?_
        rintro f w8 ⟨s2, rfl, hs2, hb8⟩
        refine hK.out _ _ ?_ (fun hHeld => ?_)
        · exact hHeld.trans (hb8.mono hHeld.size)
        clear hK K
        try simp only [Act.put, List.setIfInBounds_toArray, List.set_cons_zero, List.set_cons_succ]
        clear hb8
        refine held_one (i := 27) (fuel := 6) (by kernel_rfl) (by rw [List.getElem?_toArray]; rfl) (fun K hK => ?_)
        go_simp
        refine (HS4.out _ (HZX.out.trans (hHeld.mono HZX.out.size))).mono ?_
        rintro f w9 ⟨rfl, hb9⟩
        refine hK.out _ _ ?_ (fun hHeld => ?_)
        · exact hHeld.trans (hb9.mono hHeld.size)
        clear hK K
        try simp only [Act.put, List.setIfInBounds_toArray, List.set_cons_zero, List.set_cons_succ]
        clear hb9
        refine held_take (i := 28) (fuel := 5) (v := ?_) (by rw [List.getElem?_toArray]; rfl) (by kernel_rfl) (by kernel_rfl) (by kernel_rfl) hHeld ?_ ?_ ?_ ?_
        rotate_left
        · intro u hSw
          go_simp
          try with_reducible rfl
        · rfl
        · exact fun _ _ _ h => h
        try simp only [Act.put, List.setIfInBounds_toArray, List.set_cons_zero, List.set_cons_succ]
        refine held_take (i := 29) (fuel := 4) (v := ?_) (by rw [List.getElem?_toArray]; rfl) (by kernel_rfl) (by kernel_rfl) (by kernel_rfl) hHeld ?_ ?_ ?_ ?_
        rotate_left
        · intro u hSw
          go_simp
          try with_reducible rfl
        · rfl
        · exact fun _ _ _ h => h
        try simp only [Act.put, List.setIfInBounds_toArray, List.set_cons_zero, List.set_cons_succ]
        refine held_take (i := 30) (fuel := 3) (v := ?_) (by rw [List.getElem?_toArray]; rfl) (by kernel_rfl) (by kernel_rfl) (by kernel_rfl) hHeld ?_ ?_ ?_ ?_
        rotate_left
        · intro u hSw
          go_simp
          try with_reducible rfl
        · rfl
        · exact fun _ _ _ h => h
        try simp only [Act.put, List.setIfInBounds_toArray, List.set_cons_zero, List.set_cons_succ]
        refine held_one (i := 31) (fuel := 2) (by kernel_rfl) (by rw [List.getElem?_toArray]; rfl) (fun K hK => ?_)
        go_simp
        refine (awake18_of HE.out HB.out _).mono ?_
        rintro f wa1 ⟨rfl, hb10⟩
        refine hK.out _ _ ?_ (fun hHeld => ?_)
        · exact hHeld.trans (hb10.mono hHeld.size)
        clear hK K
        try simp only [Act.put, List.setIfInBounds_toArray, List.set_cons_zero, List.set_cons_succ]
        clear hb10
        refine held_take (i := 32) (fuel := 1) (v := ?_) (by rw [List.getElem?_toArray]; rfl) (by kernel_rfl) (by kernel_rfl) (by kernel_rfl) hHeld ?_ ?_ ?_ ?_
        rotate_left
        · intro u hSw
          go_simp
          try with_reducible rfl
        · rfl
        · exact fun _ _ _ h => h
        try simp only [Act.put, List.setIfInBounds_toArray, List.set_cons_zero, List.set_cons_succ]
        refine held_take (i := 33) (fuel := 0) (v := ?_) (by rw [List.getElem?_toArray]; rfl) (by kernel_rfl) (by kernel_rfl) (by kernel_rfl) hHeld ?_ ?_ ?_ ?_
        rotate_left
        · intro u hSw
          go_simp
          try with_reducible rfl
        · rfl
        · exact fun _ _ _ h => h
        try simp only [Act.put, List.setIfInBounds_toArray, List.set_cons_zero, List.set_cons_succ]
        refine wpAnyH_done (by kernel_rfl) ?_ _
        have HF := Lib.hid (HZX.out.trans (hHeld.mono HZX.out.size))
        go_wp2_with fail
        go_ret
        exact ⟨rfl, HF.out⟩
      refine AllReadyH.cons (by rw [List.getElem?_toArray]; rfl) (fun K hK => ?_) ?_
      ·
        go_simp
        refine hK.out _ _ ?_ (fun hHeld => ?_)
        · exact hHeld.alloc hHeld.size _
        clear hK K
        try simp only [Act.put, List.setIfInBounds_toArray, List.set_cons_zero, List.set_cons_succ]
        obtain ⟨wa, hwa⟩ : ∃ W, W = w2.alloc (.cells #[.int .i64 0, .int .i64 0, .int .i64 0, .string ⟨#[]⟩, .slice none 0 0] 31) := ⟨_, rfl⟩
        rw [← hwa] at hHeld
        rw [← hwa]
        have HKA : Hid (Blk wa w2.heap.size 31 #[.int .i64 0, .int .i64 0, .int .i64 0, .string ⟨#[]⟩, .slice none 0 0]) := Lib.hid (by rw [hwa]; exact Blk.new _ _ _)
        have HDA : Hid (Below w2.heap.size w2 wa) := Lib.hid (by rw [hwa]; exact (Below.refl _ _).alloc (Nat.le_refl _) _)
        have HSA : Hid (wa.heap.size = w2.heap.size + 1) := Lib.hid (by rw [hwa]; simp)
        clear hwa
        refine held_one (i := 5) (fuel := 2) (by kernel_rfl) (by rw [List.getElem?_toArray]; rfl) (fun K hK => ?_)
        go_simp
        refine (HB1.out _ (HX1.out.trans (hHeld.mono HX1.out.size))).mono ?_
        rintro f w3 ⟨ysA, ysm, ysc, ys, rfl, hy, hb3⟩
        have Hys := Lib.hid hy
        clear hy
        refine hK.out _ _ ?_ (fun hHeld => ?_)
        · exact hHeld.trans (hb3.mono hHeld.size)
        clear hK K
        try simp only [Act.put, List.setIfInBounds_toArray, List.set_cons_zero, List.set_cons_succ]
        have HD3 := Lib.hid hb3
        clear hb3
        refine held_one (i := 7) (fuel := 1) (by kernel_rfl) (by rw [List.getElem?_toArray]; rfl) (fun K hK => ?_)
        obtain ⟨g, hg⟩ : ∃ g, g = w2.heap.size := ⟨_, rfl⟩
        have hgw : w.heap.size ≤ g ∧ w1.heap.size ≤ g := by have := HX1.out.size; have := hHeld.size; have := HD2.out.size; have : w1.drew.heap.size = w1.heap.size := rfl; omega
        have hkl : Blk w3 g 31 #[.int .i64 0, .int .i64 0, .int .i64 0, .string ⟨#[]⟩, .slice none 0 0] := by rw [hg]; exact (HKA.out.below HD3.out HKA.out.lt)
        have hyl : y.In w3 w3.heap.size := ((((Hy.out.1.below HDA.out).more HDA.out.size).below HD3.out).more HD3.out.size)
        have hya : y.At (fun b => b ≠ g) := (Hy.out.2.1.and Hy.out.1.atB).mono (fun b hb => by have := HSA.out; have := HD3.out.size; have : w1.drew.heap.size = w1.heap.size := rfl; omega)
        have hsl : RowS6 w3 w3.heap.size ysA ysm ys := Hys.out.1
        have hsi : ∀ x ∈ ys, x.In w3 w3.heap.size := fun x hx => (Hys.out.2.1 x hx)
        have hsa : ∀ x ∈ ys, x.At (fun b => b ≠ g) := fun x hx => ((Hys.out.2.2.2.2.2 x hx).and (Hys.out.2.1 x hx).atB).mono (fun b hb => by have := HSA.out; have := HD2.out.size; have := HD3.out.size; have : w1.drew.heap.size = w1.heap.size := rfl; omega)
        have hsr : 0 < ysm → ∀ ad : Addr, ysA = some ad → ad.block ≠ g := fun hm ad e => by
          have h1 := (Hys.out.2.2.2.2.1.2 ad e).1
          obtain ⟨ad', e', h2, _⟩ := Hys.out.1.2.2 hm
          rw [e] at e'
          obtain rfl : ad = ad' := by injection e'
          have := HSA.out; have := HD2.out.size; have := HD3.out.size; have : w1.drew.heap.size = w1.heap.size := rfl; omega
        have hyp := Hy.out.2.2
        have hsp := Hys.out.2.2.1
        have hsm := Hys.out.2.2.2.1
        subst hg
        refine step_storeG (by rfl) 31 _ _ (by rfl) (w2.heap.size) (eCells y) (by rfl) (by rfl) 31 #[.int .i64 0, .int .i64 0, .int .i64 0, .string ⟨#[]⟩, .slice none 0 0] hkl expr_size rfl (expr_one _ _ _ _ _ _ _) ?_
        refine hK.out _ _ ?_ (fun hHeld => ?_)
        · exact below_setRow hHeld hgw.2 _
        clear hK K
        try simp only [Act.put, List.setIfInBounds_toArray, List.set_cons_zero, List.set_cons_succ]
        obtain ⟨Z, hZ⟩ : ∃ Z, Z = w3.setRow (w2.heap.size) (eCells y) := ⟨_, rfl⟩
        rw [← hZ] at hHeld
        rw [← hZ]
        have hk : ∀ p : Addr, p.block ≠ w2.heap.size → Z.cell? p = w3.cell? p := fun p hp => by rw [hZ]; exact cell_of_heap (setRow_other _ _ _ _ hp)
        have hzs : Z.heap.size = w3.heap.size := by rw [hZ]; simp
        have HKZ : Hid (Blk Z (w2.heap.size) 31 (eCells y)) := Lib.hid (by rw [hZ]; exact setRow_heap _ _ _ _ _ _ hkl)
        have HYZ : Hid (y.In Z Z.heap.size ∧ plE y = p) := Lib.hid ⟨hyl.keepS (S := fun b => b ≠ w2.heap.size) (by omega) (fun p hp _ => hk p hp) hya, hyp⟩
        have HSZ : Hid (RowS6 Z Z.heap.size ysA ysm ys ∧ (∀ x ∈ ys, x.In Z Z.heap.size) ∧ ys.map plS = q ∧ ysm * 104 ≤ 140737488355328) := Lib.hid ⟨hsl.keepS (S := fun b => b ≠ w2.heap.size) hsr (by omega) (fun p hp _ => hk p hp), fun x hx => (hsi x hx).keepS (S := fun b => b ≠ w2.heap.size) (by omega) (fun p hp _ => hk p hp) (hsa x hx), hsp, hsm⟩
        have HZX : Hid (Below w.heap.size w Z) := Lib.hid (HX1.out.trans (hHeld.mono HX1.out.size))
        clear hk hzs hZ hyl hya hsl hsi hsa hsr hyp hsp hsm hkl hgw
        obtain ⟨yk, yo, ym, yS, yA, yn, yc, yes⟩ := y
        have hcz : Hid (∀ u : World, Below Z.heap.size Z u → u.cell? ⟨w2.heap.size, 0, none⟩ = some (.int .i64 yk) ∧ u.cell? ⟨w2.heap.size, 1, none⟩ = some (.int .i64 yo) ∧ u.cell? ⟨w2.heap.size, 2, none⟩ = some (.int .i64 ym) ∧ u.cell? ⟨w2.heap.size, 3, none⟩ = some (.string (bs yS)) ∧ u.cell? ⟨w2.heap.size, 4, none⟩ = some (.slice yA yn yc)) := Lib.hid (fun u hb => by
          have hk2 := HKZ.out.below hb HKZ.out.lt
          exact ⟨hk2.cell 0, hk2.cell 1, hk2.cell 2, hk2.cell 3, hk2.cell 4⟩)
        refine held_take (i := 8) (fuel := 0) (v := ?_) (by rw [List.getElem?_toArray]; rfl) (by kernel_rfl) (by kernel_rfl) (by kernel_rfl) hHeld ?_ ?_ ?_ ?_
        rotate_left
        · intro u hSw
          go_simp
          try with_reducible rfl
        · rfl
        · exact fun _ _ _ h => h
        try simp only [Act.put, List.setIfInBounds_toArray, List.set_cons_zero, List.set_cons_succ]
        refine wpAnyH_done (by kernel_rfl) ?_ _
        go_wp2_with fail
        have HWZ := Lib.hid hHeld
        clear hHeld
        have hcw : Hid (∀ u : World, Below Z.heap.size Z u → u.cell? ⟨w.heap.size, 0, none⟩ = some (.int .i64 t1) ∧ u.cell? ⟨w.heap.size, 1, none⟩ = some (.int .i64 t2) ∧ u.cell? ⟨w.heap.size, 2, none⟩ = some (.int .i64 t3) ∧ u.cell? ⟨w.heap.size, 3, none⟩ = some (.int .i64 t4) ∧ u.cell? ⟨w.heap.size, 4, none⟩ = some (.slice S1 m1 k1) ∧ u.cell? ⟨w.heap.size, 5, none⟩ = some (.int .i64 fl) ∧ u.cell? ⟨w.heap.size, 6, none⟩ = some (.slice S2 m2 k2) ∧ u.cell? ⟨w.heap.size, 7, none⟩ = some (.slice S3 m3 k3) ∧ u.cell? ⟨w.heap.size, 8, none⟩ = some (.slice S4 m4 k4) ∧ u.cell? ⟨w.heap.size, 9, none⟩ = some (.slice S5 m5 k5) ∧ u.cell? ⟨w.heap.size, 10, none⟩ = some (.slice S6 m6 k6) ∧ u.cell? ⟨w.heap.size, 11, none⟩ = some (.slice S7 m7 k7) ∧ u.cell? ⟨w.heap.size, 12, none⟩ = some (.slice S8 m8 k8) ∧ u.cell? ⟨w.heap.size, 13, none⟩ = some (.slice S9 m9 k9) ∧ u.cell? ⟨w.heap.size, 14, none⟩ = some (.slice S10 m10 k10) ∧ u.cell? ⟨w.heap.size, 15, none⟩ = some (.int .i64 k) ∧ u.cell? ⟨w.heap.size, 16, none⟩ = some (.int .i64 o) ∧ u.cell? ⟨w.heap.size, 17, none⟩ = some (.int .i64 m) ∧ u.cell? ⟨w.heap.size, 18, none⟩ = some (.string (bs s)) ∧ u.cell? ⟨w.heap.size, 19, none⟩ = some (.slice B bn bc) ∧ u.cell? ⟨w.heap.size, 20, none⟩ = some (.slice A n c) ∧ u.cell? ⟨w.heap.size, 21, none⟩ = some (.int .i64 loc)) := Lib.hid (fun u hb => by
          have hk1 := (HK.out.below HW1.out HK.out.lt).below HWZ.out (HK.out.below HW1.out HK.out.lt).lt
          have hk2 := hk1.below hb hk1.lt
          exact ⟨hk2.cell 0, hk2.cell 1, hk2.cell 2, hk2.cell 3, hk2.cell 4, hk2.cell 5, hk2.cell 6, hk2.cell 7, hk2.cell 8, hk2.cell 9, hk2.cell 10, hk2.cell 11, hk2.cell 12, hk2.cell 13, hk2.cell 14, hk2.cell 15, hk2.cell 16, hk2.cell 17, hk2.cell 18, hk2.cell 19, hk2.cell 20, hk2.cell 21⟩)
        refine wp_region_held_drew (S := Below Z.heap.size Z) (by kernel_rfl) (Below.refl _ _).drew (fun hHeld => ?_)
        refine held_take (i := 0) (fuel := 33) (v := ?_) (by rw [List.getElem?_toArray]; rfl) (by kernel_rfl) (by kernel_rfl) (by kernel_rfl) hHeld ?_ ?_ ?_ ?_
        rotate_left
        · intro u hSw
          go_simp
          try with_reducible rfl
        · rfl
        · exact fun _ _ _ h => h
        try simp only [Act.put, List.setIfInBounds_toArray, List.set_cons_zero, List.set_cons_succ]
        refine held_take (i := 1) (fuel := 32) (v := ?_) (by rw [List.getElem?_toArray]; rfl) (by kernel_rfl) (by kernel_rfl) (by kernel_rfl) hHeld ?_ ?_ ?_ ?_
        rotate_left
        · intro u hSw
          obtain ⟨c0, c1, c2, c3, c4, c5, c6, c7, c8, c9, c10, c11, c12, c13, c14, c15, c16, c17, c18, c19, c20, c21⟩ := hcw.out u hSw
          go_simp
          try with_reducible rfl
        · rfl
        · exact fun _ _ _ h => h
        try simp only [Act.put, List.setIfInBounds_toArray, List.set_cons_zero, List.set_cons_succ]
        refine held_take (i := 2) (fuel := 31) (v := ?_) (by rw [List.getElem?_toArray]; rfl) (by kernel_rfl) (by kernel_rfl) (by kernel_rfl) hHeld ?_ ?_ ?_ ?_
        rotate_left
        · intro u hSw
          obtain ⟨c0, c1, c2, c3, c4⟩ := hcz.out u hSw
          go_simp
          try with_reducible rfl
        · rfl
        · exact fun _ _ _ h => h
        try simp only [Act.put, List.setIfInBounds_toArray, List.set_cons_zero, List.set_cons_succ]
        refine held_take (i := 3) (fuel := 30) (v := ?_) (by rw [List.getElem?_toArray]; rfl) (by kernel_rfl) (by kernel_rfl) (by kernel_rfl) hHeld ?_ ?_ ?_ ?_
        rotate_left
        · intro u hSw
          go_simp
          try with_reducible rfl
        · rfl
        · exact fun _ _ _ h => h
        try simp only [Act.put, List.setIfInBounds_toArray, List.set_cons_zero, List.set_cons_succ]
        refine held_take (i := 4) (fuel := 29) (v := ?_) (by rw [List.getElem?_toArray]; rfl) (by kernel_rfl) (by kernel_rfl) (by kernel_rfl) hHeld ?_ ?_ ?_ ?_
        rotate_left
        · intro u hSw
          obtain ⟨c0, c1, c2, c3, c4, c5, c6, c7, c8, c9, c10, c11, c12, c13, c14, c15, c16, c17, c18, c19, c20, c21⟩ := hcw.out u hSw
          go_simp
          try with_reducible rfl
        · rfl
        · exact fun _ _ _ h => h
        try simp only [Act.put, List.setIfInBounds_toArray, List.set_cons_zero, List.set_cons_succ]
        refine held_one (i := 5) (fuel := 28) (by kernel_rfl) (by rw [List.getElem?_toArray]; rfl) (fun K hK => ?_)
        go_simp
        refine (HTB.out HBT.out _ (EL.mk yk yo ym yS yA yn yc yes) (HZX.out.trans (hHeld.mono HZX.out.size)) ((HYZ.out.1.below hHeld).more hHeld.size) HYZ.out.2).mono ?_
        rintro f w4 ⟨rfl, hb4⟩
        refine hK.out _ _ ?_ (fun hHeld => ?_)
        · exact hHeld.trans (hb4.mono hHeld.size)
        clear hK K
        try simp only [Act.put, List.setIfInBounds_toArray, List.set_cons_zero, List.set_cons_succ]
        clear hb4
        refine held_take (i := 6) (fuel := 27) (v := ?_) (by rw [List.getElem?_toArray]; rfl) (by kernel_rfl) (by kernel_rfl) (by kernel_rfl) hHeld ?_ ?_ ?_ ?_
        rotate_left
        · intro u hSw
          go_simp
          try with_reducible rfl
        · rfl
        · exact fun _ _ _ h => h
        try simp only [Act.put, List.setIfInBounds_toArray, List.set_cons_zero, List.set_cons_succ]
        refine held_take (i := 7) (fuel := 26) (v := ?_) (by rw [List.getElem?_toArray]; rfl) (by kernel_rfl) (by kernel_rfl) (by kernel_rfl) hHeld ?_ ?_ ?_ ?_
        rotate_left
        · intro u hSw
          go_simp
          try with_reducible rfl
        · rfl
        · exact fun _ _ _ h => h
        try simp only [Act.put, List.setIfInBounds_toArray, List.set_cons_zero, List.set_cons_succ]
        refine held_take (i := 8) (fuel := 25) (v := ?_) (by rw [List.getElem?_toArray]; rfl) (by kernel_rfl) (by kernel_rfl) (by kernel_rfl) hHeld ?_ ?_ ?_ ?_
        rotate_left
        · intro u hSw
          obtain ⟨c0, c1, c2, c3, c4, c5, c6, c7, c8, c9, c10, c11, c12, c13, c14, c15, c16, c17, c18, c19, c20, c21⟩ := hcw.out u hSw
          go_simp
          try with_reducible rfl
        · rfl
        · exact fun _ _ _ h => h
        try simp only [Act.put, List.setIfInBounds_toArray, List.set_cons_zero, List.set_cons_succ]
        refine held_take (i := 9) (fuel := 24) (v := ?_) (by rw [List.getElem?_toArray]; rfl) (by kernel_rfl) (by kernel_rfl) (by kernel_rfl) hHeld ?_ ?_ ?_ ?_
        rotate_left
        · intro u hSw
          go_simp
          try with_reducible rfl
        · rfl
        · exact fun _ _ _ h => h
        try simp only [Act.put, List.setIfInBounds_toArray, List.set_cons_zero, List.set_cons_succ]
        refine held_take (i := 10) (fuel := 23) (v := ?_) (by rw [List.getElem?_toArray]; rfl) (by kernel_rfl) (by kernel_rfl) (by kernel_rfl) hHeld ?_ ?_ ?_ ?_
        rotate_left
        · intro u hSw
          go_simp
          try with_reducible rfl
        · rfl
        · exact fun _ _ _ h => h
        try simp only [Act.put, List.setIfInBounds_toArray, List.set_cons_zero, List.set_cons_succ]
        refine held_take (i := 11) (fuel := 22) (v := ?_) (by rw [List.getElem?_toArray]; rfl) (by kernel_rfl) (by kernel_rfl) (by kernel_rfl) hHeld ?_ ?_ ?_ ?_
        rotate_left
        · intro u hSw
          obtain ⟨c0, c1, c2, c3, c4, c5, c6, c7, c8, c9, c10, c11, c12, c13, c14, c15, c16, c17, c18, c19, c20, c21⟩ := hcw.out u hSw
          go_simp
          try with_reducible rfl
        · rfl
        · exact fun _ _ _ h => h
        try simp only [Act.put, List.setIfInBounds_toArray, List.set_cons_zero, List.set_cons_succ]
        refine held_one (i := 12) (fuel := 21) (by kernel_rfl) (by rw [List.getElem?_toArray]; rfl) (fun K hK => ?_)
        go_simp
        refine (HTC.out HBT.out _ ysA ysm ysc ys (HZX.out.trans (hHeld.mono HZX.out.size)) ((HSZ.out.1.below hHeld).more hHeld.size) (fun x hx => ((HSZ.out.2.1 x hx).below hHeld).more hHeld.size) HSZ.out.2.2.1).mono ?_
        rintro f w5 ⟨rfl, hb5⟩
        refine hK.out _ _ ?_ (fun hHeld => ?_)
        · exact hHeld.trans (hb5.mono hHeld.size)
        clear hK K
        try simp only [Act.put, List.setIfInBounds_toArray, List.set_cons_zero, List.set_cons_succ]
        clear hb5
        refine held_take (i := 13) (fuel := 20) (v := ?_) (by rw [List.getElem?_toArray]; rfl) (by kernel_rfl) (by kernel_rfl) (by kernel_rfl) hHeld ?_ ?_ ?_ ?_
        rotate_left
        · intro u hSw
          go_simp
          try with_reducible rfl
        · rfl
        · exact fun _ _ _ h => h
        try simp only [Act.put, List.setIfInBounds_toArray, List.set_cons_zero, List.set_cons_succ]
        refine held_take (i := 14) (fuel := 19) (v := ?_) (by rw [List.getElem?_toArray]; rfl) (by kernel_rfl) (by kernel_rfl) (by kernel_rfl) hHeld ?_ ?_ ?_ ?_
        rotate_left
        · intro u hSw
          go_simp
          try with_reducible rfl
        · rfl
        · exact fun _ _ _ h => h
        try simp only [Act.put, List.setIfInBounds_toArray, List.set_cons_zero, List.set_cons_succ]
        refine held_take (i := 15) (fuel := 18) (v := ?_) (by rw [List.getElem?_toArray]; rfl) (by kernel_rfl) (by kernel_rfl) (by kernel_rfl) hHeld ?_ ?_ ?_ ?_
        rotate_left
        · intro u hSw
          obtain ⟨c0, c1, c2, c3, c4⟩ := hcz.out u hSw
          go_simp
          try with_reducible rfl
        · rfl
        · exact fun _ _ _ h => h
        try simp only [Act.put, List.setIfInBounds_toArray, List.set_cons_zero, List.set_cons_succ]
        refine held_take (i := 17) (fuel := 17) (v := ?_) (by rw [List.getElem?_toArray]; rfl) (by kernel_rfl) (by kernel_rfl) (by kernel_rfl) hHeld ?_ ?_ ?_ ?_
        rotate_left
        · intro u hSw
          go_simp
          try with_reducible rfl
        · rfl
        · exact fun _ _ _ h => h
        try simp only [Act.put, List.setIfInBounds_toArray, List.set_cons_zero, List.set_cons_succ]
        refine held_take (i := 18) (fuel := 16) (v := ?_) (by rw [List.getElem?_toArray]; rfl) (by kernel_rfl) (by kernel_rfl) (by kernel_rfl) hHeld ?_ ?_ ?_ ?_
        rotate_left
        · intro u hSw
          obtain ⟨c0, c1, c2, c3, c4, c5, c6, c7, c8, c9, c10, c11, c12, c13, c14, c15, c16, c17, c18, c19, c20, c21⟩ := hcw.out u hSw
          go_simp
          try with_reducible rfl
        · rfl
        · exact fun _ _ _ h => h
        try simp only [Act.put, List.setIfInBounds_toArray, List.set_cons_zero, List.set_cons_succ]
        refine held_one (i := 16) (fuel := 15) (by kernel_rfl) (by rw [List.getElem?_toArray]; rfl) (fun K hK => ?_)
        go_simp
        refine (HS1.out _ (EL.mk yk yo ym yS yA yn yc yes) ((HYZ.out.1.below hHeld).more hHeld.size) HYZ.out.2).mono ?_
        rintro f w6 ⟨s1, rfl, hs1, hb6⟩
        refine hK.out _ _ ?_ (fun hHeld => ?_)
        · exact hHeld.trans (hb6.mono hHeld.size)
        clear hK K
        try simp only [Act.put, List.setIfInBounds_toArray, List.set_cons_zero, List.set_cons_succ]
        clear hb6
        refine held_one (i := 19) (fuel := 14) (by kernel_rfl) (by rw [List.getElem?_toArray]; rfl) (fun K hK => ?_)
        go_simp
        refine (HS2.out _ (HZX.out.trans (hHeld.mono HZX.out.size))).mono ?_
        rintro f w7 ⟨rfl, hb7⟩
        refine hK.out _ _ ?_ (fun hHeld => ?_)
        · exact hHeld.trans (hb7.mono hHeld.size)
        clear hK K
        try simp only [Act.put, List.setIfInBounds_toArray, List.set_cons_zero, List.set_cons_succ]
        clear hb7
        refine held_take (i := 20) (fuel := 13) (v := ?_) (by rw [List.getElem?_toArray]; rfl) (by kernel_rfl) (by kernel_rfl) (by kernel_rfl) hHeld ?_ ?_ ?_ ?_
        rotate_left
        · intro u hSw
          go_simp
          try with_reducible rfl
        · rfl
        · exact fun _ _ _ h => h
        try simp only [Act.put, List.setIfInBounds_toArray, List.set_cons_zero, List.set_cons_succ]
        refine held_take (i := 21) (fuel := 12) (v := ?_) (by rw [List.getElem?_toArray]; rfl) (by kernel_rfl) (by kernel_rfl) (by kernel_rfl) hHeld ?_ ?_ ?_ ?_
        rotate_left
        · intro u hSw
          go_simp
          try with_reducible rfl
        · rfl
        · exact fun _ _ _ h => h
        try simp only [Act.put, List.setIfInBounds_toArray, List.set_cons_zero, List.set_cons_succ]
        refine held_take (i := 22) (fuel := 11) (v := ?_) (by rw [List.getElem?_toArray]; rfl) (by kernel_rfl) (by kernel_rfl) (by kernel_rfl) hHeld ?_ ?_ ?_ ?_
        rotate_left
        · intro u hSw
          go_simp
          try with_reducible rfl
        · rfl
        · exact fun _ _ _ h => h
        try simp only [Act.put, List.setIfInBounds_toArray, List.set_cons_zero, List.set_cons_succ]
        refine held_take (i := 23) (fuel := 10) (v := ?_) (by rw [List.getElem?_toArray]; rfl) (by kernel_rfl) (by kernel_rfl) (by kernel_rfl) hHeld ?_ ?_ ?_ ?_
        rotate_left
        · intro u hSw
          go_simp
          try with_reducible rfl
        · rfl
        · exact fun _ _ _ h => h
        try simp only [Act.put, List.setIfInBounds_toArray, List.set_cons_zero, List.set_cons_succ]
        refine held_take (i := 25) (fuel := 9) (v := ?_) (by rw [List.getElem?_toArray]; rfl) (by kernel_rfl) (by kernel_rfl) (by kernel_rfl) hHeld ?_ ?_ ?_ ?_
        rotate_left
        · intro u hSw
          go_simp
          try with_reducible rfl
        · rfl
        · exact fun _ _ _ h => h
        try simp only [Act.put, List.setIfInBounds_toArray, List.set_cons_zero, List.set_cons_succ]
        refine held_take (i := 26) (fuel := 8) (v := ?_) (by rw [List.getElem?_toArray]; rfl) (by kernel_rfl) (by kernel_rfl) (by kernel_rfl) hHeld ?_ ?_ ?_ ?_
        rotate_left
        · intro u hSw
          obtain ⟨c0, c1, c2, c3, c4, c5, c6, c7, c8, c9, c10, c11, c12, c13, c14, c15, c16, c17, c18, c19, c20, c21⟩ := hcw.out u hSw
          go_simp
          try with_reducible rfl
        · rfl
        · exact fun _ _ _ h => h
        try simp only [Act.put, List.setIfInBounds_toArray, List.set_cons_zero, List.set_cons_succ]
        refine held_one (i := 24) (fuel := 7) (by kernel_rfl) (by rw [List.getElem?_toArray]; rfl) (fun K hK => ?_)
        go_simp
        refine (HS3.out _ ysA ysm ysc ys ((HSZ.out.1.below hHeld).more hHeld.size) (fun x hx => ((HSZ.out.2.1 x hx).below hHeld).more hHeld.size) HSZ.out.2.2.1).mono ?_
        rintro f w8 ⟨s2, rfl, hs2, hb8⟩
        refine hK.out _ _ ?_ (fun hHeld => ?_)
        · exact hHeld.trans (hb8.mono hHeld.size)
        clear hK K
        try simp only [Act.put, List.setIfInBounds_toArray, List.set_cons_zero, List.set_cons_succ]
        clear hb8
        refine held_one (i := 27) (fuel := 6) (by kernel_rfl) (by rw [List.getElem?_toArray]; rfl) (fun K hK => ?_)
        go_simp
        refine (HS4.out _ (HZX.out.trans (hHeld.mono HZX.out.size))).mono ?_
        rintro f w9 ⟨rfl, hb9⟩
        refine hK.out _ _ ?_ (fun hHeld => ?_)
        · exact hHeld.trans (hb9.mono hHeld.size)
        clear hK K
        try simp only [Act.put, List.setIfInBounds_toArray, List.set_cons_zero, List.set_cons_succ]
        clear hb9
        refine held_take (i := 28) (fuel := 5) (v := ?_) (by rw [List.getElem?_toArray]; rfl) (by kernel_rfl) (by kernel_rfl) (by kernel_rfl) hHeld ?_ ?_ ?_ ?_
        rotate_left
        · intro u hSw
          go_simp
          try with_reducible rfl
        · rfl
        · exact fun _ _ _ h => h
        try simp only [Act.put, List.setIfInBounds_toArray, List.set_cons_zero, List.set_cons_succ]
        refine held_take (i := 29) (fuel := 4) (v := ?_) (by rw [List.getElem?_toArray]; rfl) (by kernel_rfl) (by kernel_rfl) (by kernel_rfl) hHeld ?_ ?_ ?_ ?_
        rotate_left
        · intro u hSw
          go_simp
          try with_reducible rfl
        · rfl
        · exact fun _ _ _ h => h
        try simp only [Act.put, List.setIfInBounds_toArray, List.set_cons_zero, List.set_cons_succ]
        refine held_take (i := 30) (fuel := 3) (v := ?_) (by rw [List.getElem?_toArray]; rfl) (by kernel_rfl) (by kernel_rfl) (by kernel_rfl) hHeld ?_ ?_ ?_ ?_
        rotate_left
        · intro u hSw
          go_simp
          try with_reducible rfl
        · rfl
        · exact fun _ _ _ h => h
        try simp only [Act.put, List.setIfInBounds_toArray, List.set_cons_zero, List.set_cons_succ]
        refine held_one (i := 31) (fuel := 2) (by kernel_rfl) (by rw [List.getElem?_toArray]; rfl) (fun K hK => ?_)
        go_simp
        refine (awake18_of HE.out HB.out _).mono ?_
        rintro f wa1 ⟨rfl, hb10⟩
        refine hK.out _ _ ?_ (fun hHeld => ?_)
        · exact hHeld.trans (hb10.mono hHeld.size)
        clear hK K
        try simp only [Act.put, List.setIfInBounds_toArray, List.set_cons_zero, List.set_cons_succ]
        clear hb10
        refine held_take (i := 32) (fuel := 1) (v := ?_) (by rw [List.getElem?_toArray]; rfl) (by kernel_rfl) (by kernel_rfl) (by kernel_rfl) hHeld ?_ ?_ ?_ ?_
        rotate_left
        · intro u hSw
          go_simp
          try with_reducible rfl
        · rfl
        · exact fun _ _ _ h => h
        try simp only [Act.put, List.setIfInBounds_toArray, List.set_cons_zero, List.set_cons_succ]
        refine held_take (i := 33) (fuel := 0) (v := ?_) (by rw [List.getElem?_toArray]; rfl) (by kernel_rfl) (by kernel_rfl) (by kernel_rfl) hHeld ?_ ?_ ?_ ?_
        rotate_left
        · intro u hSw
          go_simp
          try with_reducible rfl
        · rfl
        · exact fun _ _ _ h => h
        try simp only [Act.put, List.setIfInBounds_toArray, List.set_cons_zero, List.set_cons_succ]
        refine wpAnyH_done (by kernel_rfl) ?_ _
        have HF := Lib.hid (HZX.out.trans (hHeld.mono HZX.out.size))
        go_wp2_with fail
        go_ret
        exact ⟨rfl, HF.out⟩
      exact AllReadyH.nil
    refine AllReadyH.cons (by rw [List.getElem?_toArray]; rfl) (fun K hK => ?_) ?_
    ·
      go_simp
      refine hK.out _ _ ?_ (fun hHeld => ?_)
      · exact hHeld.alloc hHeld.size _
      clear hK K
      try simp only [Act.put, List.setIfInBounds_toArray, List.set_cons_zero, List.set_cons_succ]
      obtain ⟨wa, hwa⟩ : ∃ W, W = (w1.alloc (.cells #[.int .i64 0, .int .i64 0, .int .i64 0, .string ⟨#[]⟩, .slice none 0 0] 31)).drew := ⟨_, rfl⟩
      rw [← hwa] at hHeld
      rw [← hwa]
      have HKA : Hid (Blk wa w1.heap.size 31 #[.int .i64 0, .int .i64 0, .int .i64 0, .string ⟨#[]⟩, .slice none 0 0]) := Lib.hid (by rw [hwa]; exact Blk.new w1 _ _)
      have HSA : Hid (wa.heap.size = w1.heap.size + 1) := Lib.hid (by rw [hwa]; show (w1.alloc _).heap.size = _; simp)
      clear hwa
      refine held_one (i := 2) (fuel := 3) (by kernel_rfl) (by rw [List.getElem?_toArray]; rfl) (fun K hK => ?_)
      go_simp
      refine (HE1.out _ (HX1.out.trans (hHeld.mono HX1.out.size))).mono ?_
      rintro f w2 ⟨y, rfl, hy, hb2⟩
      have Hy := Lib.hid hy
      clear hy
      refine hK.out _ _ ?_ (fun hHeld => ?_)
      · exact hHeld.trans (hb2.mono hHeld.size)
      clear hK K
      try simp only [Act.put, List.setIfInBounds_toArray, List.set_cons_zero, List.set_cons_succ]
      have HD2 := Lib.hid hb2
      clear hb2
      refine held_one (i := 5) (fuel := 2) (by kernel_rfl) (by rw [List.getElem?_toArray]; rfl) (fun K hK => ?_)
      go_simp
      refine (HB1.out _ (HX1.out.trans (hHeld.mono HX1.out.size))).mono ?_
      rintro f w3 ⟨ysA, ysm, ysc, ys, rfl, hy, hb3⟩
      have Hys := Lib.hid hy
      clear hy
      refine hK.out _ _ ?_ (fun hHeld => ?_)
      · exact hHeld.trans (hb3.mono hHeld.size)
      clear hK K
      try simp only [Act.put, List.setIfInBounds_toArray, List.set_cons_zero, List.set_cons_succ]
      have HD3 := Lib.hid hb3
      clear hb3
      refine held_one (i := 7) (fuel := 1) (by kernel_rfl) (by rw [List.getElem?_toArray]; rfl) (fun K hK => ?_)
      obtain ⟨g, hg⟩ : ∃ g, g = w1.heap.size := ⟨_, rfl⟩
      have hgw : w.heap.size ≤ g ∧ w1.heap.size ≤ g := by have := HX1.out.size; have := hHeld.size; have : w1.drew.heap.size = w1.heap.size := rfl; omega
      have hkl : Blk w3 g 31 #[.int .i64 0, .int .i64 0, .int .i64 0, .string ⟨#[]⟩, .slice none 0 0] := by rw [hg]; exact ((HKA.out.below HD2.out HKA.out.lt).below HD3.out (HKA.out.below HD2.out HKA.out.lt).lt)
      have hyl : y.In w3 w3.heap.size := ((Hy.out.1.below HD3.out).more HD3.out.size)
      have hya : y.At (fun b => b ≠ g) := (Hy.out.2.1.and Hy.out.1.atB).mono (fun b hb => by have := HSA.out; have := HD2.out.size; have := HD3.out.size; have : w1.drew.heap.size = w1.heap.size := rfl; omega)
      have hsl : RowS6 w3 w3.heap.size ysA ysm ys := Hys.out.1
      have hsi : ∀ x ∈ ys, x.In w3 w3.heap.size := fun x hx => (Hys.out.2.1 x hx)
      have hsa : ∀ x ∈ ys, x.At (fun b => b ≠ g) := fun x hx => ((Hys.out.2.2.2.2.2 x hx).and (Hys.out.2.1 x hx).atB).mono (fun b hb => by have := HSA.out; have := HD2.out.size; have := HD3.out.size; have : w1.drew.heap.size = w1.heap.size := rfl; omega)
      have hsr : 0 < ysm → ∀ ad : Addr, ysA = some ad → ad.block ≠ g := fun hm ad e => by
        have h1 := (Hys.out.2.2.2.2.1.2 ad e).1
        obtain ⟨ad', e', h2, _⟩ := Hys.out.1.2.2 hm
        rw [e] at e'
        obtain rfl : ad = ad' := by injection e'
        have := HSA.out; have := HD2.out.size; have := HD3.out.size; have : w1.drew.heap.size = w1.heap.size := rfl; omega
      have hyp := Hy.out.2.2
      have hsp := Hys.out.2.2.1
      have hsm := Hys.out.2.2.2.1
      subst hg
      refine step_storeG (by rfl) 31 _ _ (by rfl) (w1.heap.size) (eCells y) (by rfl) (by rfl) 31 #[.int .i64 0, .int .i64 0, .int .i64 0, .string ⟨#[]⟩, .slice none 0 0] hkl expr_size rfl (expr_one _ _ _ _ _ _ _) ?_
      refine hK.out _ _ ?_ (fun hHeld => ?_)
      · exact below_setRow hHeld hgw.2 _
      clear hK K
      try simp only [Act.put, List.setIfInBounds_toArray, List.set_cons_zero, List.set_cons_succ]
      obtain ⟨Z, hZ⟩ : ∃ Z, Z = w3.setRow (w1.heap.size) (eCells y) := ⟨_, rfl⟩
      rw [← hZ] at hHeld
      rw [← hZ]
      have hk : ∀ p : Addr, p.block ≠ w1.heap.size → Z.cell? p = w3.cell? p := fun p hp => by rw [hZ]; exact cell_of_heap (setRow_other _ _ _ _ hp)
      have hzs : Z.heap.size = w3.heap.size := by rw [hZ]; simp
      have HKZ : Hid (Blk Z (w1.heap.size) 31 (eCells y)) := Lib.hid (by rw [hZ]; exact setRow_heap _ _ _ _ _ _ hkl)
      have HYZ : Hid (y.In Z Z.heap.size ∧ plE y = p) := Lib.hid ⟨hyl.keepS (S := fun b => b ≠ w1.heap.size) (by omega) (fun p hp _ => hk p hp) hya, hyp⟩
      have HSZ : Hid (RowS6 Z Z.heap.size ysA ysm ys ∧ (∀ x ∈ ys, x.In Z Z.heap.size) ∧ ys.map plS = q ∧ ysm * 104 ≤ 140737488355328) := Lib.hid ⟨hsl.keepS (S := fun b => b ≠ w1.heap.size) hsr (by omega) (fun p hp _ => hk p hp), fun x hx => (hsi x hx).keepS (S := fun b => b ≠ w1.heap.size) (by omega) (fun p hp _ => hk p hp) (hsa x hx), hsp, hsm⟩
      have HZX : Hid (Below w.heap.size w Z) := Lib.hid (HX1.out.trans (hHeld.mono HX1.out.size))
      clear hk hzs hZ hyl hya hsl hsi hsa hsr hyp hsp hsm hkl hgw
      obtain ⟨yk, yo, ym, yS, yA, yn, yc, yes⟩ := y
      have hcz : Hid (∀ u : World, Below Z.heap.size Z u → u.cell? ⟨w1.heap.size, 0, none⟩ = some (.int .i64 yk) ∧ u.cell? ⟨w1.heap.size, 1, none⟩ = some (.int .i64 yo) ∧ u.cell? ⟨w1.heap.size, 2, none⟩ = some (.int .i64 ym) ∧ u.cell? ⟨w1.heap.size, 3, none⟩ = some (.string (bs yS)) ∧ u.cell? ⟨w1.heap.size, 4, none⟩ = some (.slice yA yn yc)) := Lib.hid (fun u hb => by
        have hk2 := HKZ.out.below hb HKZ.out.lt
        exact ⟨hk2.cell 0, hk2.cell 1, hk2.cell 2, hk2.cell 3, hk2.cell 4⟩)
      refine held_take (i := 8) (fuel := 0) (v := ?_) (by rw [List.getElem?_toArray]; rfl) (by kernel_rfl) (by kernel_rfl) (by kernel_rfl) hHeld ?_ ?_ ?_ ?_
      rotate_left
      · intro u hSw
        go_simp
        try with_reducible rfl
      · rfl
      · exact fun _ _ _ h => h
      try simp only [Act.put, List.setIfInBounds_toArray, List.set_cons_zero, List.set_cons_succ]
      refine wpAnyH_done (by kernel_rfl) ?_ _
      go_wp2_with fail
      have HWZ := Lib.hid hHeld
      clear hHeld
      have hcw : Hid (∀ u : World, Below Z.heap.size Z u → u.cell? ⟨w.heap.size, 0, none⟩ = some (.int .i64 t1) ∧ u.cell? ⟨w.heap.size, 1, none⟩ = some (.int .i64 t2) ∧ u.cell? ⟨w.heap.size, 2, none⟩ = some (.int .i64 t3) ∧ u.cell? ⟨w.heap.size, 3, none⟩ = some (.int .i64 t4) ∧ u.cell? ⟨w.heap.size, 4, none⟩ = some (.slice S1 m1 k1) ∧ u.cell? ⟨w.heap.size, 5, none⟩ = some (.int .i64 fl) ∧ u.cell? ⟨w.heap.size, 6, none⟩ = some (.slice S2 m2 k2) ∧ u.cell? ⟨w.heap.size, 7, none⟩ = some (.slice S3 m3 k3) ∧ u.cell? ⟨w.heap.size, 8, none⟩ = some (.slice S4 m4 k4) ∧ u.cell? ⟨w.heap.size, 9, none⟩ = some (.slice S5 m5 k5) ∧ u.cell? ⟨w.heap.size, 10, none⟩ = some (.slice S6 m6 k6) ∧ u.cell? ⟨w.heap.size, 11, none⟩ = some (.slice S7 m7 k7) ∧ u.cell? ⟨w.heap.size, 12, none⟩ = some (.slice S8 m8 k8) ∧ u.cell? ⟨w.heap.size, 13, none⟩ = some (.slice S9 m9 k9) ∧ u.cell? ⟨w.heap.size, 14, none⟩ = some (.slice S10 m10 k10) ∧ u.cell? ⟨w.heap.size, 15, none⟩ = some (.int .i64 k) ∧ u.cell? ⟨w.heap.size, 16, none⟩ = some (.int .i64 o) ∧ u.cell? ⟨w.heap.size, 17, none⟩ = some (.int .i64 m) ∧ u.cell? ⟨w.heap.size, 18, none⟩ = some (.string (bs s)) ∧ u.cell? ⟨w.heap.size, 19, none⟩ = some (.slice B bn bc) ∧ u.cell? ⟨w.heap.size, 20, none⟩ = some (.slice A n c) ∧ u.cell? ⟨w.heap.size, 21, none⟩ = some (.int .i64 loc)) := Lib.hid (fun u hb => by
        have hk1 := (HK.out.below HW1.out HK.out.lt).below HWZ.out (HK.out.below HW1.out HK.out.lt).lt
        have hk2 := hk1.below hb hk1.lt
        exact ⟨hk2.cell 0, hk2.cell 1, hk2.cell 2, hk2.cell 3, hk2.cell 4, hk2.cell 5, hk2.cell 6, hk2.cell 7, hk2.cell 8, hk2.cell 9, hk2.cell 10, hk2.cell 11, hk2.cell 12, hk2.cell 13, hk2.cell 14, hk2.cell 15, hk2.cell 16, hk2.cell 17, hk2.cell 18, hk2.cell 19, hk2.cell 20, hk2.cell 21⟩)
      refine wp_region_held_drew (S := Below Z.heap.size Z) (by kernel_rfl) (Below.refl _ _).drew (fun hHeld => ?_)
      refine held_take (i := 0) (fuel := 33) (v := ?_) (by rw [List.getElem?_toArray]; rfl) (by kernel_rfl) (by kernel_rfl) (by kernel_rfl) hHeld ?_ ?_ ?_ ?_
      rotate_left
      · intro u hSw
        go_simp
        try with_reducible rfl
      · rfl
      · exact fun _ _ _ h => h
      try simp only [Act.put, List.setIfInBounds_toArray, List.set_cons_zero, List.set_cons_succ]
      refine held_take (i := 1) (fuel := 32) (v := ?_) (by rw [List.getElem?_toArray]; rfl) (by kernel_rfl) (by kernel_rfl) (by kernel_rfl) hHeld ?_ ?_ ?_ ?_
      rotate_left
      · intro u hSw
        obtain ⟨c0, c1, c2, c3, c4, c5, c6, c7, c8, c9, c10, c11, c12, c13, c14, c15, c16, c17, c18, c19, c20, c21⟩ := hcw.out u hSw
        go_simp
        try with_reducible rfl
      · rfl
      · exact fun _ _ _ h => h
      try simp only [Act.put, List.setIfInBounds_toArray, List.set_cons_zero, List.set_cons_succ]
      refine held_take (i := 2) (fuel := 31) (v := ?_) (by rw [List.getElem?_toArray]; rfl) (by kernel_rfl) (by kernel_rfl) (by kernel_rfl) hHeld ?_ ?_ ?_ ?_
      rotate_left
      · intro u hSw
        obtain ⟨c0, c1, c2, c3, c4⟩ := hcz.out u hSw
        go_simp
        try with_reducible rfl
      · rfl
      · exact fun _ _ _ h => h
      try simp only [Act.put, List.setIfInBounds_toArray, List.set_cons_zero, List.set_cons_succ]
      refine held_take (i := 3) (fuel := 30) (v := ?_) (by rw [List.getElem?_toArray]; rfl) (by kernel_rfl) (by kernel_rfl) (by kernel_rfl) hHeld ?_ ?_ ?_ ?_
      rotate_left
      · intro u hSw
        go_simp
        try with_reducible rfl
      · rfl
      · exact fun _ _ _ h => h
      try simp only [Act.put, List.setIfInBounds_toArray, List.set_cons_zero, List.set_cons_succ]
      refine held_take (i := 4) (fuel := 29) (v := ?_) (by rw [List.getElem?_toArray]; rfl) (by kernel_rfl) (by kernel_rfl) (by kernel_rfl) hHeld ?_ ?_ ?_ ?_
      rotate_left
      · intro u hSw
        obtain ⟨c0, c1, c2, c3, c4, c5, c6, c7, c8, c9, c10, c11, c12, c13, c14, c15, c16, c17, c18, c19, c20, c21⟩ := hcw.out u hSw
        go_simp
        try with_reducible rfl
      · rfl
      · exact fun _ _ _ h => h
      try simp only [Act.put, List.setIfInBounds_toArray, List.set_cons_zero, List.set_cons_succ]
      refine held_one (i := 5) (fuel := 28) (by kernel_rfl) (by rw [List.getElem?_toArray]; rfl) (fun K hK => ?_)
      go_simp
      refine (HTB.out HBT.out _ (EL.mk yk yo ym yS yA yn yc yes) (HZX.out.trans (hHeld.mono HZX.out.size)) ((HYZ.out.1.below hHeld).more hHeld.size) HYZ.out.2).mono ?_
      rintro f w4 ⟨rfl, hb4⟩
      refine hK.out _ _ ?_ (fun hHeld => ?_)
      · exact hHeld.trans (hb4.mono hHeld.size)
      clear hK K
      try simp only [Act.put, List.setIfInBounds_toArray, List.set_cons_zero, List.set_cons_succ]
      clear hb4
      refine held_take (i := 6) (fuel := 27) (v := ?_) (by rw [List.getElem?_toArray]; rfl) (by kernel_rfl) (by kernel_rfl) (by kernel_rfl) hHeld ?_ ?_ ?_ ?_
      rotate_left
      · intro u hSw
        go_simp
        try with_reducible rfl
      · rfl
      · exact fun _ _ _ h => h
      try simp only [Act.put, List.setIfInBounds_toArray, List.set_cons_zero, List.set_cons_succ]
      refine held_take (i := 7) (fuel := 26) (v := ?_) (by rw [List.getElem?_toArray]; rfl) (by kernel_rfl) (by kernel_rfl) (by kernel_rfl) hHeld ?_ ?_ ?_ ?_
      rotate_left
      · intro u hSw
        go_simp
        try with_reducible rfl
      · rfl
      · exact fun _ _ _ h => h
      try simp only [Act.put, List.setIfInBounds_toArray, List.set_cons_zero, List.set_cons_succ]
      refine held_take (i := 8) (fuel := 25) (v := ?_) (by rw [List.getElem?_toArray]; rfl) (by kernel_rfl) (by kernel_rfl) (by kernel_rfl) hHeld ?_ ?_ ?_ ?_
      rotate_left
      · intro u hSw
        obtain ⟨c0, c1, c2, c3, c4, c5, c6, c7, c8, c9, c10, c11, c12, c13, c14, c15, c16, c17, c18, c19, c20, c21⟩ := hcw.out u hSw
        go_simp
        try with_reducible rfl
      · rfl
      · exact fun _ _ _ h => h
      try simp only [Act.put, List.setIfInBounds_toArray, List.set_cons_zero, List.set_cons_succ]
      refine held_take (i := 9) (fuel := 24) (v := ?_) (by rw [List.getElem?_toArray]; rfl) (by kernel_rfl) (by kernel_rfl) (by kernel_rfl) hHeld ?_ ?_ ?_ ?_
      rotate_left
      · intro u hSw
        go_simp
        try with_reducible rfl
      · rfl
      · exact fun _ _ _ h => h
      try simp only [Act.put, List.setIfInBounds_toArray, List.set_cons_zero, List.set_cons_succ]
      refine held_take (i := 10) (fuel := 23) (v := ?_) (by rw [List.getElem?_toArray]; rfl) (by kernel_rfl) (by kernel_rfl) (by kernel_rfl) hHeld ?_ ?_ ?_ ?_
      rotate_left
      · intro u hSw
        go_simp
        try with_reducible rfl
      · rfl
      · exact fun _ _ _ h => h
      try simp only [Act.put, List.setIfInBounds_toArray, List.set_cons_zero, List.set_cons_succ]
      refine held_take (i := 11) (fuel := 22) (v := ?_) (by rw [List.getElem?_toArray]; rfl) (by kernel_rfl) (by kernel_rfl) (by kernel_rfl) hHeld ?_ ?_ ?_ ?_
      rotate_left
      · intro u hSw
        obtain ⟨c0, c1, c2, c3, c4, c5, c6, c7, c8, c9, c10, c11, c12, c13, c14, c15, c16, c17, c18, c19, c20, c21⟩ := hcw.out u hSw
        go_simp
        try with_reducible rfl
      · rfl
      · exact fun _ _ _ h => h
      try simp only [Act.put, List.setIfInBounds_toArray, List.set_cons_zero, List.set_cons_succ]
      refine held_one (i := 12) (fuel := 21) (by kernel_rfl) (by rw [List.getElem?_toArray]; rfl) (fun K hK => ?_)
      go_simp
      refine (HTC.out HBT.out _ ysA ysm ysc ys (HZX.out.trans (hHeld.mono HZX.out.size)) ((HSZ.out.1.below hHeld).more hHeld.size) (fun x hx => ((HSZ.out.2.1 x hx).below hHeld).more hHeld.size) HSZ.out.2.2.1).mono ?_
      rintro f w5 ⟨rfl, hb5⟩
      refine hK.out _ _ ?_ (fun hHeld => ?_)
      · exact hHeld.trans (hb5.mono hHeld.size)
      clear hK K
      try simp only [Act.put, List.setIfInBounds_toArray, List.set_cons_zero, List.set_cons_succ]
      clear hb5
      refine held_take (i := 13) (fuel := 20) (v := ?_) (by rw [List.getElem?_toArray]; rfl) (by kernel_rfl) (by kernel_rfl) (by kernel_rfl) hHeld ?_ ?_ ?_ ?_
      rotate_left
      · intro u hSw
        go_simp
        try with_reducible rfl
      · rfl
      · exact fun _ _ _ h => h
      try simp only [Act.put, List.setIfInBounds_toArray, List.set_cons_zero, List.set_cons_succ]
      refine held_take (i := 14) (fuel := 19) (v := ?_) (by rw [List.getElem?_toArray]; rfl) (by kernel_rfl) (by kernel_rfl) (by kernel_rfl) hHeld ?_ ?_ ?_ ?_
      rotate_left
      · intro u hSw
        go_simp
        try with_reducible rfl
      · rfl
      · exact fun _ _ _ h => h
      try simp only [Act.put, List.setIfInBounds_toArray, List.set_cons_zero, List.set_cons_succ]
      refine held_take (i := 15) (fuel := 18) (v := ?_) (by rw [List.getElem?_toArray]; rfl) (by kernel_rfl) (by kernel_rfl) (by kernel_rfl) hHeld ?_ ?_ ?_ ?_
      rotate_left
      · intro u hSw
        obtain ⟨c0, c1, c2, c3, c4⟩ := hcz.out u hSw
        go_simp
        try with_reducible rfl
      · rfl
      · exact fun _ _ _ h => h
      try simp only [Act.put, List.setIfInBounds_toArray, List.set_cons_zero, List.set_cons_succ]
      refine held_take (i := 17) (fuel := 17) (v := ?_) (by rw [List.getElem?_toArray]; rfl) (by kernel_rfl) (by kernel_rfl) (by kernel_rfl) hHeld ?_ ?_ ?_ ?_
      rotate_left
      · intro u hSw
        go_simp
        try with_reducible rfl
      · rfl
      · exact fun _ _ _ h => h
      try simp only [Act.put, List.setIfInBounds_toArray, List.set_cons_zero, List.set_cons_succ]
      refine held_take (i := 18) (fuel := 16) (v := ?_) (by rw [List.getElem?_toArray]; rfl) (by kernel_rfl) (by kernel_rfl) (by kernel_rfl) hHeld ?_ ?_ ?_ ?_
      rotate_left
      · intro u hSw
        obtain ⟨c0, c1, c2, c3, c4, c5, c6, c7, c8, c9, c10, c11, c12, c13, c14, c15, c16, c17, c18, c19, c20, c21⟩ := hcw.out u hSw
        go_simp
        try with_reducible rfl
      · rfl
      · exact fun _ _ _ h => h
      try simp only [Act.put, List.setIfInBounds_toArray, List.set_cons_zero, List.set_cons_succ]
      refine held_one (i := 16) (fuel := 15) (by kernel_rfl) (by rw [List.getElem?_toArray]; rfl) (fun K hK => ?_)
      go_simp
      refine (HS1.out _ (EL.mk yk yo ym yS yA yn yc yes) ((HYZ.out.1.below hHeld).more hHeld.size) HYZ.out.2).mono ?_
      rintro f w6 ⟨s1, rfl, hs1, hb6⟩
      refine hK.out _ _ ?_ (fun hHeld => ?_)
      · exact hHeld.trans (hb6.mono hHeld.size)
      clear hK K
      try simp only [Act.put, List.setIfInBounds_toArray, List.set_cons_zero, List.set_cons_succ]
      clear hb6
      refine held_one (i := 19) (fuel := 14) (by kernel_rfl) (by rw [List.getElem?_toArray]; rfl) (fun K hK => ?_)
      go_simp
      refine (HS2.out _ (HZX.out.trans (hHeld.mono HZX.out.size))).mono ?_
      rintro f w7 ⟨rfl, hb7⟩
      refine hK.out _ _ ?_ (fun hHeld => ?_)
      · exact hHeld.trans (hb7.mono hHeld.size)
      clear hK K
      try simp only [Act.put, List.setIfInBounds_toArray, List.set_cons_zero, List.set_cons_succ]
      clear hb7
      refine held_take (i := 20) (fuel := 13) (v := ?_) (by rw [List.getElem?_toArray]; rfl) (by kernel_rfl) (by kernel_rfl) (by kernel_rfl) hHeld ?_ ?_ ?_ ?_
      rotate_left
      · intro u hSw
        go_simp
        try with_reducible rfl
      · rfl
      · exact fun _ _ _ h => h
      try simp only [Act.put, List.setIfInBounds_toArray, List.set_cons_zero, List.set_cons_succ]
      refine held_take (i := 21) (fuel := 12) (v := ?_) (by rw [List.getElem?_toArray]; rfl) (by kernel_rfl) (by kernel_rfl) (by kernel_rfl) hHeld ?_ ?_ ?_ ?_
      rotate_left
      · intro u hSw
        go_simp
        try with_reducible rfl
      · rfl
      · exact fun _ _ _ h => h
      try simp only [Act.put, List.setIfInBounds_toArray, List.set_cons_zero, List.set_cons_succ]
      refine held_take (i := 22) (fuel := 11) (v := ?_) (by rw [List.getElem?_toArray]; rfl) (by kernel_rfl) (by kernel_rfl) (by kernel_rfl) hHeld ?_ ?_ ?_ ?_
      rotate_left
      · intro u hSw
        go_simp
        try with_reducible rfl
      · rfl
      · exact fun _ _ _ h => h
      try simp only [Act.put, List.setIfInBounds_toArray, List.set_cons_zero, List.set_cons_succ]
      refine held_take (i := 23) (fuel := 10) (v := ?_) (by rw [List.getElem?_toArray]; rfl) (by kernel_rfl) (by kernel_rfl) (by kernel_rfl) hHeld ?_ ?_ ?_ ?_
      rotate_left
      · intro u hSw
        go_simp
        try with_reducible rfl
      · rfl
      · exact fun _ _ _ h => h
      try simp only [Act.put, List.setIfInBounds_toArray, List.set_cons_zero, List.set_cons_succ]
      refine held_take (i := 25) (fuel := 9) (v := ?_) (by rw [List.getElem?_toArray]; rfl) (by kernel_rfl) (by kernel_rfl) (by kernel_rfl) hHeld ?_ ?_ ?_ ?_
      rotate_left
      · intro u hSw
        go_simp
        try with_reducible rfl
      · rfl
      · exact fun _ _ _ h => h
      try simp only [Act.put, List.setIfInBounds_toArray, List.set_cons_zero, List.set_cons_succ]
      refine held_take (i := 26) (fuel := 8) (v := ?_) (by rw [List.getElem?_toArray]; rfl) (by kernel_rfl) (by kernel_rfl) (by kernel_rfl) hHeld ?_ ?_ ?_ ?_
      rotate_left
      · intro u hSw
        obtain ⟨c0, c1, c2, c3, c4, c5, c6, c7, c8, c9, c10, c11, c12, c13, c14, c15, c16, c17, c18, c19, c20, c21⟩ := hcw.out u hSw
        go_simp
        try with_reducible rfl
      · rfl
      · exact fun _ _ _ h => h
      try simp only [Act.put, List.setIfInBounds_toArray, List.set_cons_zero, List.set_cons_succ]
      refine held_one (i := 24) (fuel := 7) (by kernel_rfl) (by rw [List.getElem?_toArray]; rfl) (fun K hK => ?_)
      go_simp
      refine (HS3.out _ ysA ysm ysc ys ((HSZ.out.1.below hHeld).more hHeld.size) (fun x hx => ((HSZ.out.2.1 x hx).below hHeld).more hHeld.size) HSZ.out.2.2.1).mono ?_
      rintro f w8 ⟨s2, rfl, hs2, hb8⟩
      refine hK.out _ _ ?_ (fun hHeld => ?_)
      · exact hHeld.trans (hb8.mono hHeld.size)
      clear hK K
      try simp only [Act.put, List.setIfInBounds_toArray, List.set_cons_zero, List.set_cons_succ]
      clear hb8
      refine held_one (i := 27) (fuel := 6) (by kernel_rfl) (by rw [List.getElem?_toArray]; rfl) (fun K hK => ?_)
      go_simp
      refine (HS4.out _ (HZX.out.trans (hHeld.mono HZX.out.size))).mono ?_
      rintro f w9 ⟨rfl, hb9⟩
      refine hK.out _ _ ?_ (fun hHeld => ?_)
      · exact hHeld.trans (hb9.mono hHeld.size)
      clear hK K
      try simp only [Act.put, List.setIfInBounds_toArray, List.set_cons_zero, List.set_cons_succ]
      clear hb9
      refine held_take (i := 28) (fuel := 5) (v := ?_) (by rw [List.getElem?_toArray]; rfl) (by kernel_rfl) (by kernel_rfl) (by kernel_rfl) hHeld ?_ ?_ ?_ ?_
      rotate_left
      · intro u hSw
        go_simp
        try with_reducible rfl
      · rfl
      · exact fun _ _ _ h => h
      try simp only [Act.put, List.setIfInBounds_toArray, List.set_cons_zero, List.set_cons_succ]
      refine held_take (i := 29) (fuel := 4) (v := ?_) (by rw [List.getElem?_toArray]; rfl) (by kernel_rfl) (by kernel_rfl) (by kernel_rfl) hHeld ?_ ?_ ?_ ?_
      rotate_left
      · intro u hSw
        go_simp
        try with_reducible rfl
      · rfl
      · exact fun _ _ _ h => h
      try simp only [Act.put, List.setIfInBounds_toArray, List.set_cons_zero, List.set_cons_succ]
      refine held_take (i := 30) (fuel := 3) (v := ?_) (by rw [List.getElem?_toArray]; rfl) (by kernel_rfl) (by kernel_rfl) (by kernel_rfl) hHeld ?_ ?_ ?_ ?_
      rotate_left
      · intro u hSw
        go_simp
        try with_reducible rfl
      · rfl
      · exact fun _ _ _ h => h
      try simp only [Act.put, List.setIfInBounds_toArray, List.set_cons_zero, List.set_cons_succ]
      refine held_one (i := 31) (fuel := 2) (by kernel_rfl) (by rw [List.getElem?_toArray]; rfl) (fun K hK => ?_)
      go_simp
      refine (awake18_of HE.out HB.out _).mono ?_
      rintro f wa1 ⟨rfl, hb10⟩
      refine hK.out _ _ ?_ (fun hHeld => ?_)
      · exact hHeld.trans (hb10.mono hHeld.size)
      clear hK K
      try simp only [Act.put, List.setIfInBounds_toArray, List.set_cons_zero, List.set_cons_succ]
      clear hb10
      refine held_take (i := 32) (fuel := 1) (v := ?_) (by rw [List.getElem?_toArray]; rfl) (by kernel_rfl) (by kernel_rfl) (by kernel_rfl) hHeld ?_ ?_ ?_ ?_
      rotate_left
      · intro u hSw
        go_simp
        try with_reducible rfl
      · rfl
      · exact fun _ _ _ h => h
      try simp only [Act.put, List.setIfInBounds_toArray, List.set_cons_zero, List.set_cons_succ]
      refine held_take (i := 33) (fuel := 0) (v := ?_) (by rw [List.getElem?_toArray]; rfl) (by kernel_rfl) (by kernel_rfl) (by kernel_rfl) hHeld ?_ ?_ ?_ ?_
      rotate_left
      · intro u hSw
        go_simp
        try with_reducible rfl
      · rfl
      · exact fun _ _ _ h => h
      try simp only [Act.put, List.setIfInBounds_toArray, List.set_cons_zero, List.set_cons_succ]
      refine wpAnyH_done (by kernel_rfl) ?_ _
      have HF := Lib.hid (HZX.out.trans (hHeld.mono HZX.out.size))
      go_wp2_with fail
      go_ret
      exact ⟨rfl, HF.out⟩
    exact AllReadyH.nil

end

section
open Go.RowKit
set_option linter.unusedVariables false
set_option linter.unusedSimpArgs false
open Go.ChangeShapes Go.WideShapes Go.RowKit

theorem bulk_one {H : Type} (d : DataW H) : 1 ≤ Rows.uptoBulk d := by
  cases d with
  | lit l => cases l <;> simp [Rows.uptoBulk]
  | nil => simp [Rows.uptoBulk]
  | ptr d => simp [Rows.uptoBulk]
  | slice elems spare => simp [Rows.uptoBulk]
  | agg parts => simp [Rows.uptoBulk]
  | iface t d => simp [Rows.uptoBulk]
  | map entries => simp [Rows.uptoBulk]
  | held h => simp [Rows.uptoBulk]

theorem bulk_row {H : Type} (sz : Nat → Nat) (l : List (DataW H)) (h : ∀ i d, l[i]? = some d → 2 * sz i ≤ Rows.uptoBulk d) : 2 * ((List.range l.length).map sz).sum ≤ Rows.uptoBulkAll l := by
  induction l generalizing sz with
  | nil => simp [Rows.uptoBulkAll]
  | cons x r ih =>
    rw [List.length_cons, List.range_succ_eq_map, List.map_cons, List.map_map, List.sum_cons]
    have h1 := h 0 x rfl
    have h2 := ih (sz ∘ Nat.succ) (fun i d hd => h (i + 1) d hd)
    simp only [Rows.uptoBulkAll]
    omega
theorem sizeEs_sum (l : List EL) : sizeEs l = (l.map sizeE).sum := by
  induction l with
  | nil => unfold sizeEs; rfl
  | cons x r ih => rw [sizeEs_cons, ih, List.map_cons, List.sum_cons]
theorem sizeSs_sum (l : List SL) : sizeSs l = (l.map sizeS).sum := by
  induction l with
  | nil => unfold sizeSs; rfl
  | cons x r ih => rw [sizeSs_cons, ih, List.map_cons, List.sum_cons]
theorem cellsBitK : Try.prog.cellsOf 34 = 22 := by kernel_rfl

section
variable {H : Type} {enc : TypeId × Value → H} {w : World} {base : Nat} {sp : Nat → Bool} {held : Bool}

set_option maxRecDepth 100000 in
theorem open_treesK : ∀ (fuel : Nat), (∀ (cs : List Value) (x : DataW H × List MemPlace), DataW.trod enc Try.prog w base sp held fuel 31 cs = some x → (∀ b ∈ DataW.weights Try.prog 31 x.1, b ≤ reachBytes) → ∃ e : EL, cs = (eCells e).toList ∧ e.In w w.heap.size ∧ litP (plE e) ∧ 2 * sizeE e ≤ Rows.uptoBulk x.1) ∧
    (∀ (cs : List Value) (x : DataW H × List MemPlace), DataW.trod enc Try.prog w base sp held fuel 29 cs = some x → (∀ b ∈ DataW.weights Try.prog 29 x.1, b ≤ reachBytes) → ∃ (A : Option Addr) (n c : Nat) (es : List EL), cs = [.slice A n c] ∧ RowE w w.heap.size A n es ∧ EL.Ins w w.heap.size es ∧ n * 64 ≤ 140737488355328 ∧ (∀ x ∈ es, litP (plE x)) ∧ 2 * sizeEs es + 1 ≤ Rows.uptoBulk x.1) := by
  intro fuel
  induction fuel using Nat.strongRecOn with
  | _ fuel ih =>
    have hes : ∀ (cs : List Value) (x : DataW H × List MemPlace), DataW.trod enc Try.prog w base sp held fuel 29 cs = some x → (∀ b ∈ DataW.weights Try.prog 29 x.1, b ≤ reachBytes) → ∃ (A : Option Addr) (n c : Nat) (es : List EL), cs = [.slice A n c] ∧ RowE w w.heap.size A n es ∧ EL.Ins w w.heap.size es ∧ n * 64 ≤ 140737488355328 ∧ (∀ x ∈ es, litP (plE x)) ∧ 2 * sizeEs es + 1 ≤ Rows.uptoBulk x.1 := by
      intro cs x h hw
      rcases DataW.trod_slice Try.underlying29 h with ⟨rfl, _⟩ | ⟨a, len, cap, elems, rest, m, hm, rfl, hxe, _, hlc, hcm, hlen, hel, _, _⟩
      · exact ⟨none, 0, 0, [], rfl, ⟨rfl, by omega, fun h => absurd h (Nat.lt_irrefl _)⟩, EL.Ins.of fun x hx => absurd hx List.not_mem_nil, by omega, fun x hx => absurd hx List.not_mem_nil, by unfold sizeEs; exact bulk_one _⟩
      · have each : ∀ i, i < len → ∃ e : EL, (e.In w w.heap.size ∧ litP (plE e) ∧ ∀ d, elems[i]? = some d → 2 * sizeE e ≤ Rows.uptoBulk d.1) ∧ ∃ cs', w.cells? base (a.add (i * 5)) 5 = some cs' ∧ cs' = (eCells e).toList := by
          intro i hi
          have h1 := hel i hi
          rw [cellsE, List.getElem?_eq_getElem (by omega)] at h1
          obtain ⟨cs', h2, h3⟩ := Option.bind_eq_some_iff.1 h1
          obtain ⟨e, he, hin, hlt, hbk⟩ := (ih m (by omega)).1 cs' _ h3 (fun b hb => hw b (by
            rw [hxe]
            exact row_weights Try.underlying29 (List.mem_map.2 ⟨_, List.getElem_mem _, rfl⟩) hb))
          exact ⟨e, ⟨hin, hlt, fun d hd => by rw [List.getElem?_eq_getElem (by omega)] at hd; injection hd with hd; rw [← hd]; exact hbk⟩, cs', h2, he⟩
        have : Inhabited EL := ⟨nilE⟩
        obtain ⟨f, hf⟩ := Go.Deep.choose_lt each
        have hg : ∀ j, j < len → (((List.range len).map f)[j]?.getD nilE) = f j := fun j hj => by simp [hj]
        refine ⟨some a, len, cap, (List.range len).map f, rfl, ⟨by simp, by unfold maxLen at hcm; omega, fun h0 => ⟨a, rfl, ?_, fun j hj => ?_⟩⟩, EL.Ins.of fun x hx => ?_, ?_, fun x hx => ?_, ?_⟩
        · obtain ⟨_, cs', h2, h3⟩ := hf 0 h0
          obtain ⟨_, hl, hc⟩ := World.cells?_some h2
          have h4 := hc 0 (by omega)
          rw [h3] at h4
          have := World.block_lt_of_cell? w _ h4
          rw [blk_add, blk_add] at this
          exact this
        · have hj2 : j < len := by simpa using hj
          rw [hg j hj2]
          obtain ⟨_, cs', h2, h3⟩ := hf j hj2
          obtain ⟨_, hl, hc⟩ := World.cells?_some h2
          rw [h3] at hc hl
          have k0 := hc 0 (by decide)
          have k1 := hc 1 (by decide)
          have k2 := hc 2 (by decide)
          have k3 := hc 3 (by decide)
          have k4 := hc 4 (by decide)
          rw [add_pos _ 1 (by decide)] at k1
          rw [add_pos _ 2 (by decide)] at k2
          rw [add_pos _ 3 (by decide)] at k3
          rw [add_pos _ 4 (by decide)] at k4
          rw [add_zero9] at k0
          exact ⟨k0, k1, k2, k3, k4⟩
        · obtain ⟨i, hi, rfl⟩ := List.mem_map.mp hx
          exact (hf i (List.mem_range.mp hi)).1.1
        · have hb := row_weight_ (P := Try.prog) (H := H) Try.underlying29 (elems.map (·.1)) (rest.map (·.1)) (by rw [hxe] at hw; exact hw)
          rw [bytesEF, List.length_map, hlen] at hb
          exact hb
        · obtain ⟨i, hi, rfl⟩ := List.mem_map.mp hx
          exact (hf i (List.mem_range.mp hi)).1.2.1
        · have hq := bulk_row (fun i => sizeE (f i)) (elems.map (·.1)) (fun i d hd => by
            rw [List.getElem?_map] at hd
            obtain ⟨d', hd', rfl⟩ := Option.map_eq_some_iff.1 hd
            have hi : i < len := by rw [← hlen]; exact (List.getElem?_eq_some_iff.1 hd').1
            exact (hf i hi).1.2.2 d' hd')
          rw [List.length_map, hlen] at hq
          rw [hxe, sizeEs_sum, List.map_map]
          simp only [Rows.uptoBulk]
          have e : (sizeE ∘ f) = fun i => sizeE (f i) := rfl
          rw [e]
          omega
    refine ⟨?_, hes⟩
    intro cs x h hw
    obtain ⟨xs, m, hm, hx, hlen, hxl, hf⟩ := DataW.trod_struct Try.underlying31 h
    rw [cellsE] at hlen
    match cs, hlen, xs, hxl with
    | [v0, v1, v2, v3, v4], _, [y0, y1, y2, y3, y4], _ =>
      have g0 := hf 0 _ rfl
      have g1 := hf 1 _ rfl
      have g2 := hf 2 _ rfl
      have g3 := hf 3 _ rfl
      have g4 := hf 4 _ rfl
      simp [cellsI, cellsT, cellsEs] at g0 g1 g2 g3 g4
      obtain ⟨z0, e0, _, q0⟩ := DataW.trod_int Try.underlying3 g0
      obtain ⟨z1, e1, _, q1⟩ := DataW.trod_int Try.underlying3 g1
      obtain ⟨z2, e2, _, q2⟩ := DataW.trod_int Try.underlying3 g2
      obtain ⟨s, e3, _, q3⟩ := DataW.trod_string Try.underlying9 g3
      obtain ⟨A, n, c, es, e4, hr, hi, hn9, hl9, hbk⟩ := (ih m (by omega)).2 [v4] _ g4 (fun b hb => hw b (by
        rw [hx]
        unfold DataW.weights
        rw [Try.underlying31]
        simp only [List.map_cons, List.map_nil, DataW.weightsEach, List.mem_append]
        exact .inr (.inr (.inr (.inr (.inl hb))))))
      simp at e0 e1 e2 e3 e4
      refine ⟨.mk z0 z1 z2 s.data.toList A n c es, ?_, ?_, ?_, ?_⟩
      · rw [e0, e1, e2, e3, e4]
        show _ = [_, _, _, Value.string (bs s.data.toList), _]
        rw [bs_data]
        rfl
      · unfold EL.In
        refine ⟨⟨?_, ?_, hr⟩, hi⟩
        · exact wf_int64 q2
        · rw [Array.length_toList]
          show (s.size : Int) ≤ _
          unfold maxLen at q3
          omega
      · rw [plE_eq, litP_eq]
        refine ⟨?_, fun x hx => ?_⟩
        · show (es.map plE).length * 64 ≤ _
          rw [List.length_map, hr.1]
          exact hn9
        · obtain ⟨y, hy, rfl⟩ := List.mem_map.1 hx
          exact hl9 y hy
      · rw [hx, sizeE_eq]
        have b0 := bulk_one y0.1
        have b1 := bulk_one y1.1
        have b2 := bulk_one y2.1
        have b3 := bulk_one y3.1
        have hbk2 : 2 * sizeEs es + 1 ≤ Rows.uptoBulk y4.1 := hbk
        show 2 * (1 + sizeEs es) ≤ Rows.uptoBulk (.agg [y0.1, y1.1, y2.1, y3.1, y4.1])
        simp only [Rows.uptoBulk, Rows.uptoBulkAll]
        omega

set_option maxRecDepth 100000 in
theorem open_stmtsK : ∀ (fuel : Nat) (cs : List Value) (x : DataW H × List MemPlace), DataW.trod enc Try.prog w base sp held fuel 32 cs = some x → (∀ b ∈ DataW.weights Try.prog 32 x.1, b ≤ reachBytes) → ∃ (A : Option Addr) (n c : Nat) (ss : List SL), cs = [.slice A n c] ∧ RowS6 w w.heap.size A n ss ∧ SL.Ins w w.heap.size ss ∧ n * 104 ≤ 140737488355328 ∧ (∀ x ∈ ss, litS (plS x)) ∧ 2 * sizeSs ss + 1 ≤ Rows.uptoBulk x.1 := by
  intro fuel
  induction fuel using Nat.strongRecOn with
  | _ fuel ih =>
    intro cs x h hw
    rcases DataW.trod_slice Try.underlying32 h with ⟨rfl, _⟩ | ⟨a, len, cap, elems, rest, m, hm, rfl, hxe, _, hlc, hcm, hlen, hel, _, _⟩
    · exact ⟨none, 0, 0, [], rfl, ⟨rfl, by omega, fun h => absurd h (Nat.lt_irrefl _)⟩, SL.Ins.of fun x hx => absurd hx List.not_mem_nil, by omega, fun x hx => absurd hx List.not_mem_nil, by rw [show sizeSs ([] : List SL) = 0 from by unfold sizeSs; rfl]; exact bulk_one _⟩
    · have one : ∀ (cs : List Value) (x : DataW H × List MemPlace), DataW.trod enc Try.prog w base sp held m 48 cs = some x → (∀ b ∈ DataW.weights Try.prog 48 x.1, b ≤ reachBytes) → ∃ s : SL, cs = (sCells s).toList ∧ s.In w w.heap.size ∧ litS (plS s) ∧ 2 * sizeS s ≤ Rows.uptoBulk x.1 := by
        intro cs x h hw
        obtain ⟨xs, m2, hm2, hx, hlen, hxl, hf⟩ := DataW.trod_struct Try.underlying48 h
        rw [cellsS] at hlen
        match cs, hlen, xs, hxl with
        | [v0, v1, v2, v3, v4, v5], _, [y0, y1, y2, y3, y4, y5], _ =>
          have g0 := hf 0 _ rfl
          have g1 := hf 1 _ rfl
          have g2 := hf 2 _ rfl
          have g3 := hf 3 _ rfl
          have g4 := hf 4 _ rfl
          have g5 := hf 5 _ rfl
          simp [cellsI, cellsT, cellsEs, cellsSs] at g0 g1 g2 g3 g4 g5
          obtain ⟨z0, e0, _, q0⟩ := DataW.trod_int Try.underlying3 g0
          obtain ⟨z1, e1, _, q1⟩ := DataW.trod_int Try.underlying3 g1
          obtain ⟨s, e2, _, q2⟩ := DataW.trod_string Try.underlying9 g2
          obtain ⟨A, n, c, es, e3, hr, hi, l1, l2, _⟩ := (open_treesK m2).2 [v3] _ g3 (fun b hb => hw b (by
            rw [hx]
            unfold DataW.weights
            rw [Try.underlying48]
            simp only [List.map_cons, List.map_nil, DataW.weightsEach, List.mem_append]
            exact .inr (.inr (.inr (.inl hb)))))
          obtain ⟨A1, n1, c1, bo, e4, hr1, hi1, l3, l4, bk1⟩ := ih m2 (by omega) [v4] _ g4 (fun b hb => hw b (by
            rw [hx]
            unfold DataW.weights
            rw [Try.underlying48]
            simp only [List.map_cons, List.map_nil, DataW.weightsEach, List.mem_append]
            exact .inr (.inr (.inr (.inr (.inl hb))))))
          obtain ⟨A2, n2, c2, el, e5, hr2, hi2, l5, l6, bk2⟩ := ih m2 (by omega) [v5] _ g5 (fun b hb => hw b (by
            rw [hx]
            unfold DataW.weights
            rw [Try.underlying48]
            simp only [List.map_cons, List.map_nil, DataW.weightsEach, List.mem_append]
            exact .inr (.inr (.inr (.inr (.inr (.inl hb)))))))
          simp at e0 e1 e2 e3 e4 e5
          refine ⟨.mk z0 z1 s.data.toList A n c es A1 n1 c1 bo A2 n2 c2 el, ?_, ?_, ?_, ?_⟩
          · rw [e0, e1, e2, e3, e4, e5]
            show _ = [_, _, Value.string (bs s.data.toList), _, _, _]
            rw [bs_data]
            rfl
          · refine SL.In.mk ⟨⟨wf_int64 q1, ?_, ⟨hr, hi⟩, hr1, hr2⟩, hi1, hi2⟩
            show ((s.data.toList.length : Nat) : Int) ≤ _
            rw [Array.length_toList]
            show (s.size : Int) ≤ _
            unfold maxLen at q2
            omega
          · rw [plS_eq, litS_eq]
            refine ⟨⟨?_, fun x hx => ?_, ?_, ?_⟩, fun x hx => ?_, fun x hx => ?_⟩
            · show (es.map plE).length * 64 ≤ _
              rw [List.length_map, hr.1]
              exact l1
            · obtain ⟨y, hy, rfl⟩ := List.mem_map.1 hx
              exact l2 y hy
            · show (bo.map plS).length * 104 ≤ _
              rw [List.length_map, hr1.1]
              exact l3
            · show (el.map plS).length * 104 ≤ _
              rw [List.length_map, hr2.1]
              exact l5
            · obtain ⟨y, hy, rfl⟩ := List.mem_map.1 hx
              exact l4 y hy
            · obtain ⟨y, hy, rfl⟩ := List.mem_map.1 hx
              exact l6 y hy
          · rw [hx, sizeS_eq]
            have b0 := bulk_one y0.1
            have b1 := bulk_one y1.1
            have b2 := bulk_one y2.1
            have b3 := bulk_one y3.1
            have bk1' : 2 * sizeSs bo + 1 ≤ Rows.uptoBulk y4.1 := bk1
            have bk2' : 2 * sizeSs el + 1 ≤ Rows.uptoBulk y5.1 := bk2
            show 2 * (1 + sizeSs bo + sizeSs el) ≤ Rows.uptoBulk (.agg [y0.1, y1.1, y2.1, y3.1, y4.1, y5.1])
            simp only [Rows.uptoBulk, Rows.uptoBulkAll]
            omega
      have each : ∀ i, i < len → ∃ s : SL, (s.In w w.heap.size ∧ litS (plS s) ∧ ∀ d, elems[i]? = some d → 2 * sizeS s ≤ Rows.uptoBulk d.1) ∧ ∃ cs', w.cells? base (a.add (i * 6)) 6 = some cs' ∧ cs' = (sCells s).toList := by
        intro i hi
        have h1 := hel i hi
        rw [cellsS, List.getElem?_eq_getElem (by omega)] at h1
        obtain ⟨cs', h2, h3⟩ := Option.bind_eq_some_iff.1 h1
        obtain ⟨s, he, hin, hlt, hbk⟩ := one cs' _ h3 (fun b hb => hw b (by
          rw [hxe]
          exact row_weights Try.underlying32 (List.mem_map.2 ⟨_, List.getElem_mem _, rfl⟩) hb))
        exact ⟨s, ⟨hin, hlt, fun d hd => by rw [List.getElem?_eq_getElem (by omega)] at hd; injection hd with hd; rw [← hd]; exact hbk⟩, cs', h2, he⟩
      have : Inhabited SL := ⟨nilS⟩
      obtain ⟨f, hf⟩ := Go.Deep.choose_lt each
      have hg : ∀ j, j < len → (((List.range len).map f)[j]?.getD nilS) = f j := fun j hj => by simp [hj]
      refine ⟨some a, len, cap, (List.range len).map f, rfl, ⟨by simp, by unfold maxLen at hcm; omega, fun h0 => ⟨a, rfl, ?_, fun j hj => ?_⟩⟩, SL.Ins.of fun x hx => ?_, ?_, fun x hx => ?_, ?_⟩
      · obtain ⟨_, cs', h2, h3⟩ := hf 0 h0
        obtain ⟨_, hl, hc⟩ := World.cells?_some h2
        have h4 := hc 0 (by omega)
        rw [h3] at h4
        have := World.block_lt_of_cell? w _ h4
        rw [blk_add, blk_add] at this
        exact this
      · have hj2 : j < len := by simpa using hj
        rw [hg j hj2]
        obtain ⟨_, cs', h2, h3⟩ := hf j hj2
        obtain ⟨_, hl, hc⟩ := World.cells?_some h2
        rw [h3] at hc hl
        have k0 := hc 0 (by decide)
        have k1 := hc 1 (by decide)
        have k2 := hc 2 (by decide)
        have k3 := hc 3 (by decide)
        have k4 := hc 4 (by decide)
        have k5 := hc 5 (by decide)
        rw [add_pos _ 1 (by decide)] at k1
        rw [add_pos _ 2 (by decide)] at k2
        rw [add_pos _ 3 (by decide)] at k3
        rw [add_pos _ 4 (by decide)] at k4
        rw [add_pos _ 5 (by decide)] at k5
        rw [add_zero9] at k0
        exact ⟨k0, k1, k2, k3, k4, k5⟩
      · obtain ⟨i, hi, rfl⟩ := List.mem_map.mp hx
        exact (hf i (List.mem_range.mp hi)).1.1
      · have hb := row_weight_ (P := Try.prog) (H := H) Try.underlying32 (elems.map (·.1)) (rest.map (·.1)) (by rw [hxe] at hw; exact hw)
        rw [bytesSF, List.length_map, hlen] at hb
        exact hb
      · obtain ⟨i, hi, rfl⟩ := List.mem_map.mp hx
        exact (hf i (List.mem_range.mp hi)).1.2.1
      · have hq := bulk_row (fun i => sizeS (f i)) (elems.map (·.1)) (fun i d hd => by
          rw [List.getElem?_map] at hd
          obtain ⟨d', hd', rfl⟩ := Option.map_eq_some_iff.1 hd
          have hi : i < len := by rw [← hlen]; exact (List.getElem?_eq_some_iff.1 hd').1
          exact (hf i hi).1.2.2 d' hd')
        rw [List.length_map, hlen] at hq
        rw [hxe, sizeSs_sum, List.map_map]
        simp only [Rows.uptoBulk]
        have e : (sizeS ∘ f) = fun i => sizeS (f i) := rfl
        rw [e]
        omega
set_option maxRecDepth 100000 in
theorem open_bitK (fuel : Nat) (cs : List Value) (x : DataW H × List MemPlace) (h : DataW.trod enc Try.prog w base sp held fuel 34 cs = some x) (hw : ∀ b ∈ DataW.weights Try.prog 34 x.1, b ≤ reachBytes) : ∃ (T : TV) (e : EL) (A : Option Addr) (n c : Nat) (ss : List SL) (loc : Int), cs = (T.cells ++ eCells e ++ #[Value.slice A n c, Value.int .i64 loc]).toList ∧ T.In w w.heap.size ∧ e.In w w.heap.size ∧ litP (plE e) ∧ RowS6 w w.heap.size A n ss ∧ SL.Ins w w.heap.size ss ∧ n * 104 ≤ 140737488355328 ∧ (∀ z ∈ ss, litS (plS z)) ∧ (-9223372036854775808 ≤ loc ∧ loc ≤ 9223372036854775807) ∧ 2 * sizeE e ≤ Rows.uptoBulk x.1 ∧ 2 * sizeSs ss ≤ Rows.uptoBulk x.1 := by
  obtain ⟨xs, m, hm, hx, hlen, hxl, hf⟩ := DataW.trod_struct Try.underlying34 h
  rw [cellsBitK] at hlen
  match cs, hlen, xs, hxl with
  | [v0, v1, v2, v3, v4, v5, v6, v7, v8, v9, v10, v11, v12, v13, v14, v15, v16, v17, v18, v19, v20, v21], _, [y0, y1, y2, y3], _ =>
    have g0 := hf 0 _ rfl
    have g1 := hf 1 _ rfl
    have g2 := hf 2 _ rfl
    have g3 := hf 3 _ rfl
    simp [cellsI, cellsTb, cellsE, cellsSs] at g0 g1 g2 g3
    obtain ⟨T, e0, i0⟩ := open_tables m _ _ g0
    obtain ⟨e, e1, i1, l1, k1⟩ := (open_treesK m).1 _ _ g1 (fun b hb => hw b (by
      rw [hx]
      unfold DataW.weights
      rw [Try.underlying34]
      simp only [List.map_cons, List.map_nil, DataW.weightsEach, List.mem_append]
      exact .inr (.inl hb)))
    obtain ⟨A, n, c, ss, e2, hr, hi, l2, l3, k2⟩ := open_stmtsK m _ _ g2 (fun b hb => hw b (by
      rw [hx]
      unfold DataW.weights
      rw [Try.underlying34]
      simp only [List.map_cons, List.map_nil, DataW.weightsEach, List.mem_append]
      exact .inr (.inr (.inl hb))))
    obtain ⟨z, e3, _, q3⟩ := DataW.trod_int Try.underlying3 g3
    have k1' : 2 * sizeE e ≤ Rows.uptoBulk y1.1 := k1
    have k2' : 2 * sizeSs ss + 1 ≤ Rows.uptoBulk y2.1 := k2
    have k3 : Rows.uptoBulk x.1 = Rows.uptoBulk (.agg [y0.1, y1.1, y2.1, y3.1]) := by rw [hx]; rfl
    simp only [Rows.uptoBulk, Rows.uptoBulkAll] at k3
    refine ⟨T, e, A, n, c, ss, z, ?_, i0, i1, l1, hr, hi, l2, l3, wf_int64 q3, by omega, by omega⟩
    rw [Array.toList_append, Array.toList_append, ← e0, ← e1]
    simp at e2 e3
    rw [e2, e3]
    rfl
end

end

end Go.Proofs.Ytiioffjjlcfhgaa
