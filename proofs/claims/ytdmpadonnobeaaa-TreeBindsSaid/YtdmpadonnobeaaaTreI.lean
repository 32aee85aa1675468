/- Contracts of the reference's has, shape. -/
import Derived.Test.YtdmpadonnobeaaaTreH
namespace Go.Proofs.Ytdmpadonnobeaaa
open Go.RowKit

theorem len0 {α : Type} {l : List α} {n : Nat} (h : l.length = n) : ((n : Int) == 0) = true ↔ l = [] := by
  rw [beq_iff_eq]
  constructor
  · intro e; exact List.length_eq_zero_iff.1 (by omega)
  · intro e; rw [e] at h; simp at h; omega
theorem len0n {α : Type} {l : List α} {n : Nat} (h : l.length = n) (e : ¬ l = []) : ((n : Int) == 0) = false := by
  rw [Bool.eq_false_iff]
  exact fun h2 => e ((len0 h).1 h2)

set_option maxRecDepth 100000 in
set_option maxHeartbeats 6400000 in
theorem r10has_any (e : SL) (b : Nat) (named body other : Bool) (w : World) (hrow : RowE w w.heap.size e.A e.n e.args) (hrow1 : RowS6 w w.heap.size e.A1 e.n1 e.body) (hrow2 : RowS6 w w.heap.size e.A2 e.n2 e.els) :
    Calls Try.prog 83 #[sVal e, .bool named, .int .i64 b, .bool body, .bool other] w fun f w' => f = .returned (.bool (hasS e named b body other)) ∧ Below w.heap.size w w' := by
  obtain ⟨xk, xm, xs, xA, xn, xc', xes, xA1, xn1, xc1, xbo, xA2, xn2, xc2, xel⟩ := e
  have hn : xes.length = xn := hrow.1
  have hn1 : xbo.length = xn1 := hrow1.1
  have hn2 : xel.length = xn2 := hrow2.1
  show Calls Try.prog _ #[.agg #[.int .i64 xk, .int .i64 xm, .string (bs xs), .slice xA xn xc', .slice xA1 xn1 xc1, .slice xA2 xn2 xc2], .bool named, .int .i64 b, .bool body, .bool other] w fun f w' => f = .returned (.bool (decide (xes.length = b) && (body || xbo.isEmpty) && (other || xel.isEmpty) && (named || (xs.isEmpty && decide (xm = 0))))) ∧ Below w.heap.size w w'
  have HBW : Hid (Below w.heap.size w (w.alloc (.cells #[.int .i64 xk, .int .i64 xm, .string (bs xs), .slice xA xn xc', .slice xA1 xn1 xc1, .slice xA2 xn2 xc2] 47))) := Lib.hid ((Below.refl _ _).alloc (Nat.le_refl _) _)
  obtain ⟨r, hr⟩ : ∃ r, r = (decide (xes.length = b) && (body || xbo.isEmpty) && (other || xel.isEmpty) && (named || (xs.isEmpty && decide (xm = 0)))) := ⟨_, rfl⟩
  rw [← hr]
  have HRR := Lib.hid hr
  clear hrow hrow1 hrow2 hr
  by_cases h1 : xes.length = b
  · have th1 : ((xn : Int) == (b : Int)) = true := by rw [beq_iff_eq]; omega
    cases body with
    | true =>
      cases other with
      | true =>
        cases named with
        | true =>
          have e : r = true := by rw [HRR.out]; simp [h1]
          rw [e]
          clear e HRR h1
          go_enter Try.func83, Try.ntmps83
          go_wp2_with fail
          go_ret
          exact ⟨rfl, HBW.out⟩
        | false =>
          by_cases h4 : xs = []
          · have th4 : (bs xs).toList.isEmpty = true := bs_nil.2 h4
            by_cases h5 : xm = 0
            · have th5 : (xm == 0) = true := by rw [beq_iff_eq]; exact h5
              have e : r = true := by rw [HRR.out]; simp [h1, h4, h5]
              rw [e]
              clear e HRR h1 h4 h5
              go_enter Try.func83, Try.ntmps83
              go_wp2_with fail
              go_ret
              exact ⟨rfl, HBW.out⟩
            · have th5 : (xm == 0) = false := by rw [beq_eq_false_iff_ne]; exact h5
              have e : r = false := by rw [HRR.out]; simp [h1, h4, h5]
              rw [e]
              clear e HRR h1 h4 h5
              go_enter Try.func83, Try.ntmps83
              go_wp2_with fail
              go_ret
              exact ⟨rfl, HBW.out⟩
          · have th4 : (bs xs).toList.isEmpty = false := by rw [Bool.eq_false_iff]; exact fun e => h4 (bs_nil.1 e)
            have e : r = false := by rw [HRR.out]; simp [h1, h4]
            rw [e]
            clear e HRR h1 h4
            go_enter Try.func83, Try.ntmps83
            go_wp2_with fail
            go_ret
            exact ⟨rfl, HBW.out⟩

      | false =>
        by_cases h3 : xel = []
        · have th3 : ((xn2 : Int) == 0) = true := (len0 hn2).2 h3
          cases named with
          | true =>
            have e : r = true := by rw [HRR.out]; simp [h1, h3]
            rw [e]
            clear e HRR h1 h3
            go_enter Try.func83, Try.ntmps83
            go_wp2_with fail
            go_ret
            exact ⟨rfl, HBW.out⟩
          | false =>
            by_cases h4 : xs = []
            · have th4 : (bs xs).toList.isEmpty = true := bs_nil.2 h4
              by_cases h5 : xm = 0
              · have th5 : (xm == 0) = true := by rw [beq_iff_eq]; exact h5
                have e : r = true := by rw [HRR.out]; simp [h1, h3, h4, h5]
                rw [e]
                clear e HRR h1 h3 h4 h5
                go_enter Try.func83, Try.ntmps83
                go_wp2_with fail
                go_ret
                exact ⟨rfl, HBW.out⟩
              · have th5 : (xm == 0) = false := by rw [beq_eq_false_iff_ne]; exact h5
                have e : r = false := by rw [HRR.out]; simp [h1, h3, h4, h5]
                rw [e]
                clear e HRR h1 h3 h4 h5
                go_enter Try.func83, Try.ntmps83
                go_wp2_with fail
                go_ret
                exact ⟨rfl, HBW.out⟩
            · have th4 : (bs xs).toList.isEmpty = false := by rw [Bool.eq_false_iff]; exact fun e => h4 (bs_nil.1 e)
              have e : r = false := by rw [HRR.out]; simp [h1, h3, h4]
              rw [e]
              clear e HRR h1 h3 h4
              go_enter Try.func83, Try.ntmps83
              go_wp2_with fail
              go_ret
              exact ⟨rfl, HBW.out⟩

        · have th3 : ((xn2 : Int) == 0) = false := len0n hn2 h3
          have e : r = false := by rw [HRR.out]; simp [h1, h3]
          rw [e]
          clear e HRR h1 h3
          go_enter Try.func83, Try.ntmps83
          go_wp2_with fail
          go_ret
          exact ⟨rfl, HBW.out⟩

    | false =>
      by_cases h2 : xbo = []
      · have th2 : ((xn1 : Int) == 0) = true := (len0 hn1).2 h2
        cases other with
        | true =>
          cases named with
          | true =>
            have e : r = true := by rw [HRR.out]; simp [h1, h2]
            rw [e]
            clear e HRR h1 h2
            go_enter Try.func83, Try.ntmps83
            go_wp2_with fail
            go_ret
            exact ⟨rfl, HBW.out⟩
          | false =>
            by_cases h4 : xs = []
            · have th4 : (bs xs).toList.isEmpty = true := bs_nil.2 h4
              by_cases h5 : xm = 0
              · have th5 : (xm == 0) = true := by rw [beq_iff_eq]; exact h5
                have e : r = true := by rw [HRR.out]; simp [h1, h2, h4, h5]
                rw [e]
                clear e HRR h1 h2 h4 h5
                go_enter Try.func83, Try.ntmps83
                go_wp2_with fail
                go_ret
                exact ⟨rfl, HBW.out⟩
              · have th5 : (xm == 0) = false := by rw [beq_eq_false_iff_ne]; exact h5
                have e : r = false := by rw [HRR.out]; simp [h1, h2, h4, h5]
                rw [e]
                clear e HRR h1 h2 h4 h5
                go_enter Try.func83, Try.ntmps83
                go_wp2_with fail
                go_ret
                exact ⟨rfl, HBW.out⟩
            · have th4 : (bs xs).toList.isEmpty = false := by rw [Bool.eq_false_iff]; exact fun e => h4 (bs_nil.1 e)
              have e : r = false := by rw [HRR.out]; simp [h1, h2, h4]
              rw [e]
              clear e HRR h1 h2 h4
              go_enter Try.func83, Try.ntmps83
              go_wp2_with fail
              go_ret
              exact ⟨rfl, HBW.out⟩

        | false =>
          by_cases h3 : xel = []
          · have th3 : ((xn2 : Int) == 0) = true := (len0 hn2).2 h3
            cases named with
            | true =>
              have e : r = true := by rw [HRR.out]; simp [h1, h2, h3]
              rw [e]
              clear e HRR h1 h2 h3
              go_enter Try.func83, Try.ntmps83
              go_wp2_with fail
              go_ret
              exact ⟨rfl, HBW.out⟩
            | false =>
              by_cases h4 : xs = []
              · have th4 : (bs xs).toList.isEmpty = true := bs_nil.2 h4
                by_cases h5 : xm = 0
                · have th5 : (xm == 0) = true := by rw [beq_iff_eq]; exact h5
                  have e : r = true := by rw [HRR.out]; simp [h1, h2, h3, h4, h5]
                  rw [e]
                  clear e HRR h1 h2 h3 h4 h5
                  go_enter Try.func83, Try.ntmps83
                  go_wp2_with fail
                  go_ret
                  exact ⟨rfl, HBW.out⟩
                · have th5 : (xm == 0) = false := by rw [beq_eq_false_iff_ne]; exact h5
                  have e : r = false := by rw [HRR.out]; simp [h1, h2, h3, h4, h5]
                  rw [e]
                  clear e HRR h1 h2 h3 h4 h5
                  go_enter Try.func83, Try.ntmps83
                  go_wp2_with fail
                  go_ret
                  exact ⟨rfl, HBW.out⟩
              · have th4 : (bs xs).toList.isEmpty = false := by rw [Bool.eq_false_iff]; exact fun e => h4 (bs_nil.1 e)
                have e : r = false := by rw [HRR.out]; simp [h1, h2, h3, h4]
                rw [e]
                clear e HRR h1 h2 h3 h4
                go_enter Try.func83, Try.ntmps83
                go_wp2_with fail
                go_ret
                exact ⟨rfl, HBW.out⟩

          · have th3 : ((xn2 : Int) == 0) = false := len0n hn2 h3
            have e : r = false := by rw [HRR.out]; simp [h1, h2, h3]
            rw [e]
            clear e HRR h1 h2 h3
            go_enter Try.func83, Try.ntmps83
            go_wp2_with fail
            go_ret
            exact ⟨rfl, HBW.out⟩

      · have th2 : ((xn1 : Int) == 0) = false := len0n hn1 h2
        have e : r = false := by rw [HRR.out]; simp [h1, h2]
        rw [e]
        clear e HRR h1 h2
        go_enter Try.func83, Try.ntmps83
        go_wp2_with fail
        go_ret
        exact ⟨rfl, HBW.out⟩

  · have th1 : ((xn : Int) == (b : Int)) = false := by rw [beq_eq_false_iff_ne]; omega
    have e : r = false := by rw [HRR.out]; simp [h1]
    rw [e]
    clear e HRR h1
    go_enter Try.func83, Try.ntmps83
    go_wp2_with fail
    go_ret
    exact ⟨rfl, HBW.out⟩

set_option maxRecDepth 100000 in
set_option maxHeartbeats 6400000 in
theorem r10shape_any (e : SL) (w : World) (hrow : RowE w w.heap.size e.A e.n e.args) (hrow1 : RowS6 w w.heap.size e.A1 e.n1 e.body) (hrow2 : RowS6 w w.heap.size e.A2 e.n2 e.els) :
    Calls Try.prog 61 #[sVal e] w fun f w' => f = .returned (.tuple #[.bool (shapeS e).1, .bool (shapeS e).2]) ∧ Below w.heap.size w w' := by
  have hc : ∀ (b : Nat) (named body other : Bool) (W : World), Below w.heap.size w W → Calls Try.prog 83 #[sVal e, .bool named, .int .i64 b, .bool body, .bool other] W fun f w' => f = .returned (.bool (hasS e named b body other)) ∧ Below W.heap.size W w' := fun b named body other W hb =>
    r10has_any e b named body other W ((RowE.below hrow hb).more hb.size) ((RowS6.below hrow1 hb).more hb.size) ((RowS6.below hrow2 hb).more hb.size)
  have hn := hrow.1
  have hn9 := hrow.2.1
  obtain ⟨xk, xm, xs, xA, xn, xc', xes, xA1, xn1, xc1, xbo, xA2, xn2, xc2, xel⟩ := e
  change xes.length = xn at hn
  change (xn : Int) ≤ 9223372036854775807 at hn9
  have hc' : ∀ (b : Nat) (named body other : Bool) (W : World), Below w.heap.size w W → Calls Try.prog 83 #[.agg #[.int .i64 xk, .int .i64 xm, .string (bs xs), .slice xA xn xc', .slice xA1 xn1 xc1, .slice xA2 xn2 xc2], .bool named, .int .i64 b, .bool body, .bool other] W fun f w' => f = .returned (.bool (hasS (.mk xk xm xs xA xn xc' xes xA1 xn1 xc1 xbo xA2 xn2 xc2 xel) named b body other)) ∧ Below W.heap.size W w' := hc
  have HC := Lib.hid hc'
  obtain ⟨W, hW⟩ : ∃ W, W = w.alloc (.cells #[.int .i64 xk, .int .i64 xm, .string (bs xs), .slice xA xn xc', .slice xA1 xn1 xc1, .slice xA2 xn2 xc2] 47) := ⟨_, rfl⟩
  have HBW : Hid (Below w.heap.size w W) := Lib.hid (by rw [hW]; exact (Below.refl _ _).alloc (Nat.le_refl _) _)
  have HKA : Hid (Blk (w.alloc (.cells #[.int .i64 xk, .int .i64 xm, .string (bs xs), .slice xA xn xc', .slice xA1 xn1 xc1, .slice xA2 xn2 xc2] 47)) w.heap.size 47 #[.int .i64 xk, .int .i64 xm, .string (bs xs), .slice xA xn xc', .slice xA1 xn1 xc1, .slice xA2 xn2 xc2]) := Lib.hid (Blk.new _ _ _)
  have HK : Hid (Blk W w.heap.size 47 #[.int .i64 xk, .int .i64 xm, .string (bs xs), .slice xA xn xc', .slice xA1 xn1 xc1, .slice xA2 xn2 xc2]) := Lib.hid (by rw [hW]; exact HKA.out)
  show Calls Try.prog _ #[.agg #[.int .i64 xk, .int .i64 xm, .string (bs xs), .slice xA xn xc', .slice xA1 xn1 xc1, .slice xA2 xn2 xc2]] w _
  clear hc hc' hrow hrow1 hrow2
  by_cases h1 : xk = 1
  · subst h1
    obtain ⟨q, hq⟩ : ∃ q, q = (hasS (.mk 1 xm xs xA xn xc' xes xA1 xn1 xc1 xbo xA2 xn2 xc2 xel) false xes.length false false && (decide (1 ≤ xes.length) && decide (xes.length ≤ 8))) := ⟨_, rfl⟩
    have e1 : shapeS (.mk 1 xm xs xA xn xc' xes xA1 xn1 xc1 xbo xA2 xn2 xc2 xel) = (q, false) := by rw [hq]; unfold shapeS; exact if_pos rfl
    have HQ := Lib.hid hq
    rw [e1]
    clear e1 hq
    obtain ⟨a, ha⟩ : ∃ a, a = hasS (.mk 1 xm xs xA xn xc' xes xA1 xn1 xc1 xbo xA2 xn2 xc2 xel) false xn false false := ⟨_, rfl⟩
    have HAA := Lib.hid ha
    obtain ⟨z, hz⟩ : ∃ z, z = amongB (xn : Int) 1 8 := ⟨_, rfl⟩
    have HF : Hid (q = (a && z)) := Lib.hid (by
      have h1 : z = (decide (1 ≤ xn) && decide (xn ≤ 8)) := by rw [hz]; unfold amongB; congr 1 <;> exact decide_eq_decide.2 (by omega)
      rw [HQ.out, hn, ← ha, h1])
    have HZ := Lib.hid hz
    clear ha hz
    rw [HF.out]
    go_enter Try.func61, Try.ntmps61
    go_wp2_with (refine wpList_load_row rfl 47 _ rfl w.heap.size rfl 47 #[.int .i64 1, .int .i64 xm, .string (bs xs), .slice xA xn xc', .slice xA1 xn1 xc1, .slice xA2 xn2 xc2] (0, 0) _ HKA.out Try.underlying47 rfl stmt_size ?_)
    rw [← hW]
    refine (HC.out xn false false false W HBW.out).mono ?_
    rintro f w2 ⟨rfl, hb2⟩
    have HB2 := Lib.hid (HBW.out.trans (hb2.mono HBW.out.size))
    have k3 : w2.cell? ⟨w.heap.size, 3, none⟩ = some (.slice xA xn xc') := (HK.out.below hb2 HK.out.lt).cell 3
    rw [← HAA.out]
    clear hb2
    cases a with
    | false =>
      go_wp2_with fail
      go_ret2
      exact ⟨rfl, HB2.out⟩
    | true =>
      go_wp2_with fail
      refine (r10among_any w2 xn 1 8).mono ?_
      rintro f w3 ⟨rfl, rfl⟩
      rw [← HZ.out]
      go_wp2_with fail
      go_ret2
      exact ⟨rfl, HB2.out⟩
  by_cases h2 : xk = 2
  · subst h2
    obtain ⟨q, hq⟩ : ∃ q, q = hasS (.mk 2 xm xs xA xn xc' xes xA1 xn1 xc1 xbo xA2 xn2 xc2 xel) true 1 false false := ⟨_, rfl⟩
    have e1 : shapeS (.mk 2 xm xs xA xn xc' xes xA1 xn1 xc1 xbo xA2 xn2 xc2 xel) = (q, true) := by rw [hq]; unfold shapeS; simp [SL.kind]
    have HQ := Lib.hid hq
    rw [e1]
    clear e1 hq
    go_enter Try.func61, Try.ntmps61
    go_wp2_with (refine wpList_load_row rfl 47 _ rfl w.heap.size rfl 47 #[.int .i64 2, .int .i64 xm, .string (bs xs), .slice xA xn xc', .slice xA1 xn1 xc1, .slice xA2 xn2 xc2] (0, 0) _ HKA.out Try.underlying47 rfl stmt_size ?_)
    rw [← hW]
    refine (HC.out 1 true false false W HBW.out).mono ?_
    rintro f w2 ⟨rfl, hb2⟩
    rw [← HQ.out]
    go_wp2_with fail
    go_ret2
    exact ⟨rfl, HBW.out.trans (hb2.mono HBW.out.size)⟩
  by_cases h3 : xk = 3
  · subst h3
    obtain ⟨q, hq⟩ : ∃ q, q = hasS (.mk 3 xm xs xA xn xc' xes xA1 xn1 xc1 xbo xA2 xn2 xc2 xel) true 1 false false := ⟨_, rfl⟩
    have e1 : shapeS (.mk 3 xm xs xA xn xc' xes xA1 xn1 xc1 xbo xA2 xn2 xc2 xel) = (q, true) := by rw [hq]; unfold shapeS; simp [SL.kind]
    have HQ := Lib.hid hq
    rw [e1]
    clear e1 hq
    go_enter Try.func61, Try.ntmps61
    go_wp2_with (refine wpList_load_row rfl 47 _ rfl w.heap.size rfl 47 #[.int .i64 3, .int .i64 xm, .string (bs xs), .slice xA xn xc', .slice xA1 xn1 xc1, .slice xA2 xn2 xc2] (0, 0) _ HKA.out Try.underlying47 rfl stmt_size ?_)
    rw [← hW]
    refine (HC.out 1 true false false W HBW.out).mono ?_
    rintro f w2 ⟨rfl, hb2⟩
    rw [← HQ.out]
    go_wp2_with fail
    go_ret2
    exact ⟨rfl, HBW.out.trans (hb2.mono HBW.out.size)⟩
  by_cases h5 : xk = 5
  · subst h5
    obtain ⟨q, hq⟩ : ∃ q, q = hasS (.mk 5 xm xs xA xn xc' xes xA1 xn1 xc1 xbo xA2 xn2 xc2 xel) true 1 false false := ⟨_, rfl⟩
    have e1 : shapeS (.mk 5 xm xs xA xn xc' xes xA1 xn1 xc1 xbo xA2 xn2 xc2 xel) = (q, true) := by rw [hq]; unfold shapeS; simp [SL.kind]
    have HQ := Lib.hid hq
    rw [e1]
    clear e1 hq
    go_enter Try.func61, Try.ntmps61
    go_wp2_with (refine wpList_load_row rfl 47 _ rfl w.heap.size rfl 47 #[.int .i64 5, .int .i64 xm, .string (bs xs), .slice xA xn xc', .slice xA1 xn1 xc1, .slice xA2 xn2 xc2] (0, 0) _ HKA.out Try.underlying47 rfl stmt_size ?_)
    rw [← hW]
    refine (HC.out 1 true false false W HBW.out).mono ?_
    rintro f w2 ⟨rfl, hb2⟩
    rw [← HQ.out]
    go_wp2_with fail
    go_ret2
    exact ⟨rfl, HBW.out.trans (hb2.mono HBW.out.size)⟩
  by_cases h6 : xk = 6
  · subst h6
    obtain ⟨q, hq⟩ : ∃ q, q = hasS (.mk 6 xm xs xA xn xc' xes xA1 xn1 xc1 xbo xA2 xn2 xc2 xel) true 1 false false := ⟨_, rfl⟩
    have e1 : shapeS (.mk 6 xm xs xA xn xc' xes xA1 xn1 xc1 xbo xA2 xn2 xc2 xel) = (q, true) := by rw [hq]; unfold shapeS; simp [SL.kind]
    have HQ := Lib.hid hq
    rw [e1]
    clear e1 hq
    go_enter Try.func61, Try.ntmps61
    go_wp2_with (refine wpList_load_row rfl 47 _ rfl w.heap.size rfl 47 #[.int .i64 6, .int .i64 xm, .string (bs xs), .slice xA xn xc', .slice xA1 xn1 xc1, .slice xA2 xn2 xc2] (0, 0) _ HKA.out Try.underlying47 rfl stmt_size ?_)
    rw [← hW]
    refine (HC.out 1 true false false W HBW.out).mono ?_
    rintro f w2 ⟨rfl, hb2⟩
    rw [← HQ.out]
    go_wp2_with fail
    go_ret2
    exact ⟨rfl, HBW.out.trans (hb2.mono HBW.out.size)⟩
  by_cases h17 : xk = 17
  · subst h17
    obtain ⟨q, hq⟩ : ∃ q, q = hasS (.mk 17 xm xs xA xn xc' xes xA1 xn1 xc1 xbo xA2 xn2 xc2 xel) true 1 false false := ⟨_, rfl⟩
    have e1 : shapeS (.mk 17 xm xs xA xn xc' xes xA1 xn1 xc1 xbo xA2 xn2 xc2 xel) = (q, true) := by rw [hq]; unfold shapeS; simp [SL.kind]
    have HQ := Lib.hid hq
    rw [e1]
    clear e1 hq
    go_enter Try.func61, Try.ntmps61
    go_wp2_with (refine wpList_load_row rfl 47 _ rfl w.heap.size rfl 47 #[.int .i64 17, .int .i64 xm, .string (bs xs), .slice xA xn xc', .slice xA1 xn1 xc1, .slice xA2 xn2 xc2] (0, 0) _ HKA.out Try.underlying47 rfl stmt_size ?_)
    rw [← hW]
    refine (HC.out 1 true false false W HBW.out).mono ?_
    rintro f w2 ⟨rfl, hb2⟩
    rw [← HQ.out]
    go_wp2_with fail
    go_ret2
    exact ⟨rfl, HBW.out.trans (hb2.mono HBW.out.size)⟩
  by_cases h23 : xk = 23
  · subst h23
    obtain ⟨q, hq⟩ : ∃ q, q = hasS (.mk 23 xm xs xA xn xc' xes xA1 xn1 xc1 xbo xA2 xn2 xc2 xel) true 1 false false := ⟨_, rfl⟩
    have e1 : shapeS (.mk 23 xm xs xA xn xc' xes xA1 xn1 xc1 xbo xA2 xn2 xc2 xel) = (q, true) := by rw [hq]; unfold shapeS; simp [SL.kind]
    have HQ := Lib.hid hq
    rw [e1]
    clear e1 hq
    go_enter Try.func61, Try.ntmps61
    go_wp2_with (refine wpList_load_row rfl 47 _ rfl w.heap.size rfl 47 #[.int .i64 23, .int .i64 xm, .string (bs xs), .slice xA xn xc', .slice xA1 xn1 xc1, .slice xA2 xn2 xc2] (0, 0) _ HKA.out Try.underlying47 rfl stmt_size ?_)
    rw [← hW]
    refine (HC.out 1 true false false W HBW.out).mono ?_
    rintro f w2 ⟨rfl, hb2⟩
    rw [← HQ.out]
    go_wp2_with fail
    go_ret2
    exact ⟨rfl, HBW.out.trans (hb2.mono HBW.out.size)⟩
  by_cases h4 : xk = 4
  · subst h4
    obtain ⟨q, hq⟩ : ∃ q, q = hasS (.mk 4 xm xs xA xn xc' xes xA1 xn1 xc1 xbo xA2 xn2 xc2 xel) true 2 false false := ⟨_, rfl⟩
    have e1 : shapeS (.mk 4 xm xs xA xn xc' xes xA1 xn1 xc1 xbo xA2 xn2 xc2 xel) = (q, true) := by rw [hq]; unfold shapeS; simp [SL.kind]
    have HQ := Lib.hid hq
    rw [e1]
    clear e1 hq
    go_enter Try.func61, Try.ntmps61
    go_wp2_with (refine wpList_load_row rfl 47 _ rfl w.heap.size rfl 47 #[.int .i64 4, .int .i64 xm, .string (bs xs), .slice xA xn xc', .slice xA1 xn1 xc1, .slice xA2 xn2 xc2] (0, 0) _ HKA.out Try.underlying47 rfl stmt_size ?_)
    rw [← hW]
    refine (HC.out 2 true false false W HBW.out).mono ?_
    rintro f w2 ⟨rfl, hb2⟩
    rw [← HQ.out]
    go_wp2_with fail
    go_ret2
    exact ⟨rfl, HBW.out.trans (hb2.mono HBW.out.size)⟩
  by_cases h7 : xk = 7
  · subst h7
    obtain ⟨q, hq⟩ : ∃ q, q = hasS (.mk 7 xm xs xA xn xc' xes xA1 xn1 xc1 xbo xA2 xn2 xc2 xel) false 2 false false := ⟨_, rfl⟩
    have e1 : shapeS (.mk 7 xm xs xA xn xc' xes xA1 xn1 xc1 xbo xA2 xn2 xc2 xel) = (q, false) := by rw [hq]; unfold shapeS; simp [SL.kind]
    have HQ := Lib.hid hq
    rw [e1]
    clear e1 hq
    go_enter Try.func61, Try.ntmps61
    go_wp2_with (refine wpList_load_row rfl 47 _ rfl w.heap.size rfl 47 #[.int .i64 7, .int .i64 xm, .string (bs xs), .slice xA xn xc', .slice xA1 xn1 xc1, .slice xA2 xn2 xc2] (0, 0) _ HKA.out Try.underlying47 rfl stmt_size ?_)
    rw [← hW]
    refine (HC.out 2 false false false W HBW.out).mono ?_
    rintro f w2 ⟨rfl, hb2⟩
    rw [← HQ.out]
    go_wp2_with fail
    go_ret2
    exact ⟨rfl, HBW.out.trans (hb2.mono HBW.out.size)⟩
  by_cases h8 : xk = 8
  · subst h8
    obtain ⟨q, hq⟩ : ∃ q, q = hasS (.mk 8 xm xs xA xn xc' xes xA1 xn1 xc1 xbo xA2 xn2 xc2 xel) false 1 false false := ⟨_, rfl⟩
    have e1 : shapeS (.mk 8 xm xs xA xn xc' xes xA1 xn1 xc1 xbo xA2 xn2 xc2 xel) = (q, false) := by rw [hq]; unfold shapeS; simp [SL.kind]
    have HQ := Lib.hid hq
    rw [e1]
    clear e1 hq
    go_enter Try.func61, Try.ntmps61
    go_wp2_with (refine wpList_load_row rfl 47 _ rfl w.heap.size rfl 47 #[.int .i64 8, .int .i64 xm, .string (bs xs), .slice xA xn xc', .slice xA1 xn1 xc1, .slice xA2 xn2 xc2] (0, 0) _ HKA.out Try.underlying47 rfl stmt_size ?_)
    rw [← hW]
    refine (HC.out 1 false false false W HBW.out).mono ?_
    rintro f w2 ⟨rfl, hb2⟩
    rw [← HQ.out]
    go_wp2_with fail
    go_ret2
    exact ⟨rfl, HBW.out.trans (hb2.mono HBW.out.size)⟩
  by_cases h12 : xk = 12
  · subst h12
    obtain ⟨q, hq⟩ : ∃ q, q = hasS (.mk 12 xm xs xA xn xc' xes xA1 xn1 xc1 xbo xA2 xn2 xc2 xel) false 1 false false := ⟨_, rfl⟩
    have e1 : shapeS (.mk 12 xm xs xA xn xc' xes xA1 xn1 xc1 xbo xA2 xn2 xc2 xel) = (q, false) := by rw [hq]; unfold shapeS; simp [SL.kind]
    have HQ := Lib.hid hq
    rw [e1]
    clear e1 hq
    go_enter Try.func61, Try.ntmps61
    go_wp2_with (refine wpList_load_row rfl 47 _ rfl w.heap.size rfl 47 #[.int .i64 12, .int .i64 xm, .string (bs xs), .slice xA xn xc', .slice xA1 xn1 xc1, .slice xA2 xn2 xc2] (0, 0) _ HKA.out Try.underlying47 rfl stmt_size ?_)
    rw [← hW]
    refine (HC.out 1 false false false W HBW.out).mono ?_
    rintro f w2 ⟨rfl, hb2⟩
    rw [← HQ.out]
    go_wp2_with fail
    go_ret2
    exact ⟨rfl, HBW.out.trans (hb2.mono HBW.out.size)⟩
  by_cases h16 : xk = 16
  · subst h16
    obtain ⟨q, hq⟩ : ∃ q, q = hasS (.mk 16 xm xs xA xn xc' xes xA1 xn1 xc1 xbo xA2 xn2 xc2 xel) false 1 false false := ⟨_, rfl⟩
    have e1 : shapeS (.mk 16 xm xs xA xn xc' xes xA1 xn1 xc1 xbo xA2 xn2 xc2 xel) = (q, false) := by rw [hq]; unfold shapeS; simp [SL.kind]
    have HQ := Lib.hid hq
    rw [e1]
    clear e1 hq
    go_enter Try.func61, Try.ntmps61
    go_wp2_with (refine wpList_load_row rfl 47 _ rfl w.heap.size rfl 47 #[.int .i64 16, .int .i64 xm, .string (bs xs), .slice xA xn xc', .slice xA1 xn1 xc1, .slice xA2 xn2 xc2] (0, 0) _ HKA.out Try.underlying47 rfl stmt_size ?_)
    rw [← hW]
    refine (HC.out 1 false false false W HBW.out).mono ?_
    rintro f w2 ⟨rfl, hb2⟩
    rw [← HQ.out]
    go_wp2_with fail
    go_ret2
    exact ⟨rfl, HBW.out.trans (hb2.mono HBW.out.size)⟩
  by_cases h20 : xk = 20
  · subst h20
    obtain ⟨q, hq⟩ : ∃ q, q = hasS (.mk 20 xm xs xA xn xc' xes xA1 xn1 xc1 xbo xA2 xn2 xc2 xel) false 1 false false := ⟨_, rfl⟩
    have e1 : shapeS (.mk 20 xm xs xA xn xc' xes xA1 xn1 xc1 xbo xA2 xn2 xc2 xel) = (q, false) := by rw [hq]; unfold shapeS; simp [SL.kind]
    have HQ := Lib.hid hq
    rw [e1]
    clear e1 hq
    go_enter Try.func61, Try.ntmps61
    go_wp2_with (refine wpList_load_row rfl 47 _ rfl w.heap.size rfl 47 #[.int .i64 20, .int .i64 xm, .string (bs xs), .slice xA xn xc', .slice xA1 xn1 xc1, .slice xA2 xn2 xc2] (0, 0) _ HKA.out Try.underlying47 rfl stmt_size ?_)
    rw [← hW]
    refine (HC.out 1 false false false W HBW.out).mono ?_
    rintro f w2 ⟨rfl, hb2⟩
    rw [← HQ.out]
    go_wp2_with fail
    go_ret2
    exact ⟨rfl, HBW.out.trans (hb2.mono HBW.out.size)⟩
  by_cases h22 : xk = 22
  · subst h22
    obtain ⟨q, hq⟩ : ∃ q, q = hasS (.mk 22 xm xs xA xn xc' xes xA1 xn1 xc1 xbo xA2 xn2 xc2 xel) false 1 false false := ⟨_, rfl⟩
    have e1 : shapeS (.mk 22 xm xs xA xn xc' xes xA1 xn1 xc1 xbo xA2 xn2 xc2 xel) = (q, false) := by rw [hq]; unfold shapeS; simp [SL.kind]
    have HQ := Lib.hid hq
    rw [e1]
    clear e1 hq
    go_enter Try.func61, Try.ntmps61
    go_wp2_with (refine wpList_load_row rfl 47 _ rfl w.heap.size rfl 47 #[.int .i64 22, .int .i64 xm, .string (bs xs), .slice xA xn xc', .slice xA1 xn1 xc1, .slice xA2 xn2 xc2] (0, 0) _ HKA.out Try.underlying47 rfl stmt_size ?_)
    rw [← hW]
    refine (HC.out 1 false false false W HBW.out).mono ?_
    rintro f w2 ⟨rfl, hb2⟩
    rw [← HQ.out]
    go_wp2_with fail
    go_ret2
    exact ⟨rfl, HBW.out.trans (hb2.mono HBW.out.size)⟩
  by_cases h19 : xk = 19
  · subst h19
    obtain ⟨q, hq⟩ : ∃ q, q = hasS (.mk 19 xm xs xA xn xc' xes xA1 xn1 xc1 xbo xA2 xn2 xc2 xel) false 1 false false := ⟨_, rfl⟩
    have e1 : shapeS (.mk 19 xm xs xA xn xc' xes xA1 xn1 xc1 xbo xA2 xn2 xc2 xel) = (q, false) := by rw [hq]; unfold shapeS; simp [SL.kind]
    have HQ := Lib.hid hq
    rw [e1]
    clear e1 hq
    go_enter Try.func61, Try.ntmps61
    go_wp2_with (refine wpList_load_row rfl 47 _ rfl w.heap.size rfl 47 #[.int .i64 19, .int .i64 xm, .string (bs xs), .slice xA xn xc', .slice xA1 xn1 xc1, .slice xA2 xn2 xc2] (0, 0) _ HKA.out Try.underlying47 rfl stmt_size ?_)
    rw [← hW]
    refine (HC.out 1 false false false W HBW.out).mono ?_
    rintro f w2 ⟨rfl, hb2⟩
    rw [← HQ.out]
    go_wp2_with fail
    go_ret2
    exact ⟨rfl, HBW.out.trans (hb2.mono HBW.out.size)⟩
  by_cases h9 : xk = 9
  · subst h9
    obtain ⟨q, hq⟩ : ∃ q, q = hasS (.mk 9 xm xs xA xn xc' xes xA1 xn1 xc1 xbo xA2 xn2 xc2 xel) false 1 true true := ⟨_, rfl⟩
    have e1 : shapeS (.mk 9 xm xs xA xn xc' xes xA1 xn1 xc1 xbo xA2 xn2 xc2 xel) = (q, false) := by rw [hq]; unfold shapeS; simp [SL.kind]
    have HQ := Lib.hid hq
    rw [e1]
    clear e1 hq
    go_enter Try.func61, Try.ntmps61
    go_wp2_with (refine wpList_load_row rfl 47 _ rfl w.heap.size rfl 47 #[.int .i64 9, .int .i64 xm, .string (bs xs), .slice xA xn xc', .slice xA1 xn1 xc1, .slice xA2 xn2 xc2] (0, 0) _ HKA.out Try.underlying47 rfl stmt_size ?_)
    rw [← hW]
    refine (HC.out 1 false true true W HBW.out).mono ?_
    rintro f w2 ⟨rfl, hb2⟩
    rw [← HQ.out]
    go_wp2_with fail
    go_ret2
    exact ⟨rfl, HBW.out.trans (hb2.mono HBW.out.size)⟩
  by_cases h10 : xk = 10
  · subst h10
    obtain ⟨q, hq⟩ : ∃ q, q = hasS (.mk 10 xm xs xA xn xc' xes xA1 xn1 xc1 xbo xA2 xn2 xc2 xel) false 1 true false := ⟨_, rfl⟩
    have e1 : shapeS (.mk 10 xm xs xA xn xc' xes xA1 xn1 xc1 xbo xA2 xn2 xc2 xel) = (q, false) := by rw [hq]; unfold shapeS; simp [SL.kind]
    have HQ := Lib.hid hq
    rw [e1]
    clear e1 hq
    go_enter Try.func61, Try.ntmps61
    go_wp2_with (refine wpList_load_row rfl 47 _ rfl w.heap.size rfl 47 #[.int .i64 10, .int .i64 xm, .string (bs xs), .slice xA xn xc', .slice xA1 xn1 xc1, .slice xA2 xn2 xc2] (0, 0) _ HKA.out Try.underlying47 rfl stmt_size ?_)
    rw [← hW]
    refine (HC.out 1 false true false W HBW.out).mono ?_
    rintro f w2 ⟨rfl, hb2⟩
    rw [← HQ.out]
    go_wp2_with fail
    go_ret2
    exact ⟨rfl, HBW.out.trans (hb2.mono HBW.out.size)⟩
  by_cases h11 : xk = 11
  · subst h11
    obtain ⟨q, hq⟩ : ∃ q, q = hasS (.mk 11 xm xs xA xn xc' xes xA1 xn1 xc1 xbo xA2 xn2 xc2 xel) true 1 true false := ⟨_, rfl⟩
    have e1 : shapeS (.mk 11 xm xs xA xn xc' xes xA1 xn1 xc1 xbo xA2 xn2 xc2 xel) = (q, true) := by rw [hq]; unfold shapeS; simp [SL.kind]
    have HQ := Lib.hid hq
    rw [e1]
    clear e1 hq
    go_enter Try.func61, Try.ntmps61
    go_wp2_with (refine wpList_load_row rfl 47 _ rfl w.heap.size rfl 47 #[.int .i64 11, .int .i64 xm, .string (bs xs), .slice xA xn xc', .slice xA1 xn1 xc1, .slice xA2 xn2 xc2] (0, 0) _ HKA.out Try.underlying47 rfl stmt_size ?_)
    rw [← hW]
    refine (HC.out 1 true true false W HBW.out).mono ?_
    rintro f w2 ⟨rfl, hb2⟩
    rw [← HQ.out]
    go_wp2_with fail
    go_ret2
    exact ⟨rfl, HBW.out.trans (hb2.mono HBW.out.size)⟩
  by_cases h18 : xk = 18
  · subst h18
    obtain ⟨q, hq⟩ : ∃ q, q = hasS (.mk 18 xm xs xA xn xc' xes xA1 xn1 xc1 xbo xA2 xn2 xc2 xel) true 0 false false := ⟨_, rfl⟩
    have e1 : shapeS (.mk 18 xm xs xA xn xc' xes xA1 xn1 xc1 xbo xA2 xn2 xc2 xel) = (q, true) := by rw [hq]; unfold shapeS; simp [SL.kind]
    have HQ := Lib.hid hq
    rw [e1]
    clear e1 hq
    go_enter Try.func61, Try.ntmps61
    go_wp2_with (refine wpList_load_row rfl 47 _ rfl w.heap.size rfl 47 #[.int .i64 18, .int .i64 xm, .string (bs xs), .slice xA xn xc', .slice xA1 xn1 xc1, .slice xA2 xn2 xc2] (0, 0) _ HKA.out Try.underlying47 rfl stmt_size ?_)
    rw [← hW]
    refine (HC.out 0 true false false W HBW.out).mono ?_
    rintro f w2 ⟨rfl, hb2⟩
    rw [← HQ.out]
    go_wp2_with fail
    go_ret2
    exact ⟨rfl, HBW.out.trans (hb2.mono HBW.out.size)⟩
  by_cases h13 : xk = 13
  · subst h13
    obtain ⟨q, hq⟩ : ∃ q, q = hasS (.mk 13 xm xs xA xn xc' xes xA1 xn1 xc1 xbo xA2 xn2 xc2 xel) false 0 false false := ⟨_, rfl⟩
    have e1 : shapeS (.mk 13 xm xs xA xn xc' xes xA1 xn1 xc1 xbo xA2 xn2 xc2 xel) = (q, false) := by rw [hq]; unfold shapeS; simp [SL.kind]
    have HQ := Lib.hid hq
    rw [e1]
    clear e1 hq
    go_enter Try.func61, Try.ntmps61
    go_wp2_with (refine wpList_load_row rfl 47 _ rfl w.heap.size rfl 47 #[.int .i64 13, .int .i64 xm, .string (bs xs), .slice xA xn xc', .slice xA1 xn1 xc1, .slice xA2 xn2 xc2] (0, 0) _ HKA.out Try.underlying47 rfl stmt_size ?_)
    rw [← hW]
    refine (HC.out 0 false false false W HBW.out).mono ?_
    rintro f w2 ⟨rfl, hb2⟩
    rw [← HQ.out]
    go_wp2_with fail
    go_ret2
    exact ⟨rfl, HBW.out.trans (hb2.mono HBW.out.size)⟩
  by_cases h14 : xk = 14
  · subst h14
    obtain ⟨q, hq⟩ : ∃ q, q = hasS (.mk 14 xm xs xA xn xc' xes xA1 xn1 xc1 xbo xA2 xn2 xc2 xel) false 0 false false := ⟨_, rfl⟩
    have e1 : shapeS (.mk 14 xm xs xA xn xc' xes xA1 xn1 xc1 xbo xA2 xn2 xc2 xel) = (q, false) := by rw [hq]; unfold shapeS; simp [SL.kind]
    have HQ := Lib.hid hq
    rw [e1]
    clear e1 hq
    go_enter Try.func61, Try.ntmps61
    go_wp2_with (refine wpList_load_row rfl 47 _ rfl w.heap.size rfl 47 #[.int .i64 14, .int .i64 xm, .string (bs xs), .slice xA xn xc', .slice xA1 xn1 xc1, .slice xA2 xn2 xc2] (0, 0) _ HKA.out Try.underlying47 rfl stmt_size ?_)
    rw [← hW]
    refine (HC.out 0 false false false W HBW.out).mono ?_
    rintro f w2 ⟨rfl, hb2⟩
    rw [← HQ.out]
    go_wp2_with fail
    go_ret2
    exact ⟨rfl, HBW.out.trans (hb2.mono HBW.out.size)⟩
  by_cases h15 : xk = 15
  · subst h15
    obtain ⟨q, hq⟩ : ∃ q, q = hasS (.mk 15 xm xs xA xn xc' xes xA1 xn1 xc1 xbo xA2 xn2 xc2 xel) false 0 false false := ⟨_, rfl⟩
    have e1 : shapeS (.mk 15 xm xs xA xn xc' xes xA1 xn1 xc1 xbo xA2 xn2 xc2 xel) = (q, false) := by rw [hq]; unfold shapeS; simp [SL.kind]
    have HQ := Lib.hid hq
    rw [e1]
    clear e1 hq
    go_enter Try.func61, Try.ntmps61
    go_wp2_with (refine wpList_load_row rfl 47 _ rfl w.heap.size rfl 47 #[.int .i64 15, .int .i64 xm, .string (bs xs), .slice xA xn xc', .slice xA1 xn1 xc1, .slice xA2 xn2 xc2] (0, 0) _ HKA.out Try.underlying47 rfl stmt_size ?_)
    rw [← hW]
    refine (HC.out 0 false false false W HBW.out).mono ?_
    rintro f w2 ⟨rfl, hb2⟩
    rw [← HQ.out]
    go_wp2_with fail
    go_ret2
    exact ⟨rfl, HBW.out.trans (hb2.mono HBW.out.size)⟩
  by_cases h21 : xk = 21
  · subst h21
    obtain ⟨q, hq⟩ : ∃ q, q = hasS (.mk 21 xm xs xA xn xc' xes xA1 xn1 xc1 xbo xA2 xn2 xc2 xel) false 0 false false := ⟨_, rfl⟩
    have e1 : shapeS (.mk 21 xm xs xA xn xc' xes xA1 xn1 xc1 xbo xA2 xn2 xc2 xel) = (q, false) := by rw [hq]; unfold shapeS; simp [SL.kind]
    have HQ := Lib.hid hq
    rw [e1]
    clear e1 hq
    go_enter Try.func61, Try.ntmps61
    go_wp2_with (refine wpList_load_row rfl 47 _ rfl w.heap.size rfl 47 #[.int .i64 21, .int .i64 xm, .string (bs xs), .slice xA xn xc', .slice xA1 xn1 xc1, .slice xA2 xn2 xc2] (0, 0) _ HKA.out Try.underlying47 rfl stmt_size ?_)
    rw [← hW]
    refine (HC.out 0 false false false W HBW.out).mono ?_
    rintro f w2 ⟨rfl, hb2⟩
    rw [← HQ.out]
    go_wp2_with fail
    go_ret2
    exact ⟨rfl, HBW.out.trans (hb2.mono HBW.out.size)⟩
  have e1 : shapeS (.mk xk xm xs xA xn xc' xes xA1 xn1 xc1 xbo xA2 xn2 xc2 xel) = (false, false) := by unfold shapeS; simp [SL.kind, h1, h2, h3, h5, h6, h17, h23, h4, h7, h8, h12, h16, h20, h22, h19, h9, h10, h11, h18, h13, h14, h15, h21]
  have t1 : (xk == 1) = false := by rw [beq_eq_false_iff_ne]; exact h1
  have t2 : (xk == 2) = false := by rw [beq_eq_false_iff_ne]; exact h2
  have t3 : (xk == 3) = false := by rw [beq_eq_false_iff_ne]; exact h3
  have t5 : (xk == 5) = false := by rw [beq_eq_false_iff_ne]; exact h5
  have t6 : (xk == 6) = false := by rw [beq_eq_false_iff_ne]; exact h6
  have t17 : (xk == 17) = false := by rw [beq_eq_false_iff_ne]; exact h17
  have t23 : (xk == 23) = false := by rw [beq_eq_false_iff_ne]; exact h23
  have t4 : (xk == 4) = false := by rw [beq_eq_false_iff_ne]; exact h4
  have t7 : (xk == 7) = false := by rw [beq_eq_false_iff_ne]; exact h7
  have t8 : (xk == 8) = false := by rw [beq_eq_false_iff_ne]; exact h8
  have t12 : (xk == 12) = false := by rw [beq_eq_false_iff_ne]; exact h12
  have t16 : (xk == 16) = false := by rw [beq_eq_false_iff_ne]; exact h16
  have t20 : (xk == 20) = false := by rw [beq_eq_false_iff_ne]; exact h20
  have t22 : (xk == 22) = false := by rw [beq_eq_false_iff_ne]; exact h22
  have t19 : (xk == 19) = false := by rw [beq_eq_false_iff_ne]; exact h19
  have t9 : (xk == 9) = false := by rw [beq_eq_false_iff_ne]; exact h9
  have t10 : (xk == 10) = false := by rw [beq_eq_false_iff_ne]; exact h10
  have t11 : (xk == 11) = false := by rw [beq_eq_false_iff_ne]; exact h11
  have t18 : (xk == 18) = false := by rw [beq_eq_false_iff_ne]; exact h18
  have t13 : (xk == 13) = false := by rw [beq_eq_false_iff_ne]; exact h13
  have t14 : (xk == 14) = false := by rw [beq_eq_false_iff_ne]; exact h14
  have t15 : (xk == 15) = false := by rw [beq_eq_false_iff_ne]; exact h15
  have t21 : (xk == 21) = false := by rw [beq_eq_false_iff_ne]; exact h21
  rw [e1]
  clear e1 h1 h2 h3 h5 h6 h17 h23 h4 h7 h8 h12 h16 h20 h22 h19 h9 h10 h11 h18 h13 h14 h15 h21
  go_enter Try.func61, Try.ntmps61
  go_wp2_with fail
  go_ret2
  exact ⟨rfl, by have := HBW.out; rwa [hW] at this⟩

end Go.Proofs.Ytdmpadonnobeaaa
