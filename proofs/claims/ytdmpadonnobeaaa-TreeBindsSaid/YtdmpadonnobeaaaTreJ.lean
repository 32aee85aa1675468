/- Contracts of the reference's right, Right. -/
import Derived.Test.YtdmpadonnobeaaaTreH
import Derived.Deep.CutBlock
namespace Go.Proofs.Ytdmpadonnobeaaa
open Go.RowKit

theorem all_take {α : Type} {p : α → Bool} {l : List α} {j : Nat} {d : α} (h : j < l.length) : (l.take (j + 1)).all p = ((l.take j).all p && p (l[j]?.getD d)) := by
  rw [List.take_succ_eq_append_getElem h, List.all_append, List.getElem?_eq_getElem h]
  simp

set_option maxRecDepth 100000 in
set_option maxHeartbeats 6400000 in
theorem r10right_any : ∀ (e : EL) (said : Bool) (w : World), e.In w w.heap.size →
    Calls Try.prog 34 #[eVal e, .bool said] w fun f w' => f = .returned (.bool (rightE nmB said e)) ∧ Below w.heap.size w w' := by
  refine EL.ind fun e ih said w hin => ?_
  have hrow := hin.row
  have hargs := hin.args
  have hfit := hin.fit
  have hcb : ∀ (b : Nat) (op num named : Bool) (W : World), Below w.heap.size w W → Calls Try.prog 54 #[eVal e, .int .i64 b, .bool op, .bool num, .bool named] W fun f w' => f = .returned (.bool (bareE e b op num named)) ∧ Below W.heap.size W w' := fun b op num named W hb =>
    r10bare_any e b op num named W ((RowE.below hrow hb).more hb.size)
  rw [rightE_eq, rightEs_all]
  obtain ⟨k, o, m, s, A, n, c, es⟩ := e
  have hn : es.length = n := hrow.1
  have hn9 : (n : Int) ≤ 9223372036854775807 := hrow.2.1
  have hs9 : (s.length : Int) ≤ 9223372036854775807 := hfit.2
  have hcb' : ∀ (b : Nat) (op num named : Bool) (W : World), Below w.heap.size w W → Calls Try.prog 54 #[.agg #[.int .i64 k, .int .i64 o, .int .i64 m, .string (bs s), .slice A n c], .int .i64 b, .bool op, .bool num, .bool named] W fun f w' => f = .returned (.bool (bareE (.mk k o m s A n c es) b op num named)) ∧ Below W.heap.size W w' := hcb
  have hnm : ∀ W : World, Calls Try.prog 57 #[.string (bs s)] W fun f w' => f = .returned (.bool (nmB s)) ∧ W = w' := fun W => by
    have := r10name_any W (bs s) (by rw [bs_size]; exact hs9)
    rwa [data_bs] at this
  have htx : ∀ W : World, Calls Try.prog 56 #[.string (bs s)] W fun f w' => f = .returned (.bool (textB s)) ∧ W = w' := fun W => by
    have := rtext_any W (bs s) (by rw [bs_size]; exact hs9)
    rwa [data_bs] at this
  have HCB := Lib.hid hcb'
  have HNM := Lib.hid hnm
  have HTX := Lib.hid htx
  have HR : Hid (RowE w w.heap.size A n es) := Lib.hid hrow
  have HA : Hid (EL.Ins w w.heap.size es) := Lib.hid hargs
  have HL := Lib.hid hn
  have ih' : ∀ x ∈ es, ∀ (said : Bool) (w : World), x.In w w.heap.size → Calls Try.prog 34 #[eVal x, .bool said] w fun f w' => f = .returned (.bool (rightE nmB said x)) ∧ Below w.heap.size w w' := ih
  have IH := Lib.hid ih'
  obtain ⟨W, hW⟩ : ∃ W, W = w.alloc (.cells #[.int .i64 k, .int .i64 o, .int .i64 m, .string (bs s), .slice A n c] 24) := ⟨_, rfl⟩
  have HBW : Hid (Below w.heap.size w W) := Lib.hid (by rw [hW]; exact (Below.refl _ _).alloc (Nat.le_refl _) _)
  have HK : Hid (Blk W w.heap.size 24 #[.int .i64 k, .int .i64 o, .int .i64 m, .string (bs s), .slice A n c]) := Lib.hid (by rw [hW]; exact Blk.new _ _ _)
  show Calls Try.prog _ #[.agg #[.int .i64 k, .int .i64 o, .int .i64 m, .string (bs s), .slice A n c], .bool said] w fun f w' => f = .returned (.bool (okE nmB said (.mk k o m s A n c es) && es.all (rightE nmB false))) ∧ Below w.heap.size w w'
  clear ih ih' hrow hargs hin hn hcb hcb' hnm htx hfit
  go_enter Try.func34, Try.ntmps34
  go_upto_block 0 with fail
  rw [← hW]
  have k0 : W.cell? ⟨w.heap.size, 0, none⟩ = some (.int .i64 k) := HK.out.cell 0
  have k1 : W.cell? ⟨w.heap.size, 1, none⟩ = some (.int .i64 o) := HK.out.cell 1
  have k2 : W.cell? ⟨w.heap.size, 2, none⟩ = some (.int .i64 m) := HK.out.cell 2
  have k3 : W.cell? ⟨w.heap.size, 3, none⟩ = some (.string (bs s)) := HK.out.cell 3
  have k4 : W.cell? ⟨w.heap.size, 4, none⟩ = some (.slice A n c) := HK.out.cell 4
  clear hW
  go_cut [5] from 8 to 107 (fun v wx => v = .bool (okE nmB said (.mk k o m s A n c es)) ∧ Below W.heap.size W wx)
  case first =>
    clear IH HR HA
    have HB0 : Hid (Below W.heap.size W W) := Lib.hid (Below.refl _ _)
    by_cases h1 : k = 1
    · subst h1
      obtain ⟨q0, hq0⟩ : ∃ q, q = bareE (.mk 1 o m s A n c es) 0 false true false := ⟨_, rfl⟩
      obtain ⟨q1, hq1⟩ : ∃ q, q = amongB m 0 32767 := ⟨_, rfl⟩
      have e1 : okE nmB said (.mk 1 o m s A n c es) = (q0 && q1) := by
        rw [hq0, hq1]
        exact (if_pos (by show (1 : Int) = 1; decide)).trans rfl
      have Hq0 := Lib.hid hq0
      have Hq1 := Lib.hid hq1
      have HE1 := Lib.hid e1
      clear e1 hq0 hq1
      go_wp2_with (refine wpList_load_row rfl 24 _ rfl w.heap.size rfl 24 #[.int .i64 1, .int .i64 o, .int .i64 m, .string (bs s), .slice A n c] (0, 0) _ HK.out Try.underlying24 rfl expr_size ?_)
      refine (HCB.out 0 false true false W HBW.out).mono ?_
      rintro f w2 ⟨rfl, hb2⟩
      rw [← Hq0.out]
      have HB2 := Lib.hid hb2
      have k1 : w2.cell? ⟨w.heap.size, 1, none⟩ = some (.int .i64 o) := (HK.out.below hb2 HK.out.lt).cell 1
      have k2 : w2.cell? ⟨w.heap.size, 2, none⟩ = some (.int .i64 m) := (HK.out.below hb2 HK.out.lt).cell 2
      have k3 : w2.cell? ⟨w.heap.size, 3, none⟩ = some (.string (bs s)) := (HK.out.below hb2 HK.out.lt).cell 3
      have k4 : w2.cell? ⟨w.heap.size, 4, none⟩ = some (.slice A n c) := (HK.out.below hb2 HK.out.lt).cell 4
      clear hb2
      cases q0 with
      | false =>
        go_wp2_with fail
        go_meet
        case rel => exact ⟨by rw [HE1.out] <;> rfl, HB2.out⟩
      | true =>
        go_wp2_with fail
        refine (r10among_any w2 m 0 32767).mono ?_
        rintro f w3 ⟨rfl, rfl⟩
        rw [← Hq1.out]
        go_wp2_with fail
        go_meet
        case rel => exact ⟨by rw [HE1.out] <;> rfl, HB2.out⟩
    by_cases h2 : k = 2
    · subst h2
      obtain ⟨q1, hq1⟩ : ∃ q, q = bareE (.mk 2 o m s A n c es) 0 false false true := ⟨_, rfl⟩
      obtain ⟨q2, hq2⟩ : ∃ q, q = textB s := ⟨_, rfl⟩
      have e1 : okE nmB said (.mk 2 o m s A n c es) = (said && q1 && q2) := by
        rw [hq1, hq2]
        exact (if_neg (by show ¬ ((2 : Int) = 1); decide)).trans ((if_pos (by show (2 : Int) = 2; decide)).trans rfl)
      have Hq1 := Lib.hid hq1
      have Hq2 := Lib.hid hq2
      have HE1 := Lib.hid e1
      clear e1 hq1 hq2
      cases said with
      | false =>
        go_wp2_with fail
        go_meet
        case rel => exact ⟨by rw [HE1.out] <;> rfl, HB0.out⟩
      | true =>
        go_wp2_with (refine wpList_load_row rfl 24 _ rfl w.heap.size rfl 24 #[.int .i64 2, .int .i64 o, .int .i64 m, .string (bs s), .slice A n c] (0, 0) _ HK.out Try.underlying24 rfl expr_size ?_)
        refine (HCB.out 0 false false true W HBW.out).mono ?_
        rintro f w2 ⟨rfl, hb2⟩
        rw [← Hq1.out]
        have HB2 := Lib.hid hb2
        have k1 : w2.cell? ⟨w.heap.size, 1, none⟩ = some (.int .i64 o) := (HK.out.below hb2 HK.out.lt).cell 1
        have k2 : w2.cell? ⟨w.heap.size, 2, none⟩ = some (.int .i64 m) := (HK.out.below hb2 HK.out.lt).cell 2
        have k3 : w2.cell? ⟨w.heap.size, 3, none⟩ = some (.string (bs s)) := (HK.out.below hb2 HK.out.lt).cell 3
        have k4 : w2.cell? ⟨w.heap.size, 4, none⟩ = some (.slice A n c) := (HK.out.below hb2 HK.out.lt).cell 4
        clear hb2
        cases q1 with
        | false =>
          go_wp2_with fail
          go_meet
          case rel => exact ⟨by rw [HE1.out] <;> rfl, HB2.out⟩
        | true =>
          go_wp2_with fail
          refine (HTX.out w2).mono ?_
          rintro f w3 ⟨rfl, rfl⟩
          rw [← Hq2.out]
          go_wp2_with fail
          go_meet
          case rel => exact ⟨by rw [HE1.out] <;> rfl, HB2.out⟩
    by_cases h3 : k = 3
    · subst h3
      obtain ⟨q0, hq0⟩ : ∃ q, q = bareE (.mk 3 o m s A n c es) 0 false false true := ⟨_, rfl⟩
      obtain ⟨q1, hq1⟩ : ∃ q, q = nmB s := ⟨_, rfl⟩
      have e1 : okE nmB said (.mk 3 o m s A n c es) = (q0 && q1) := by
        rw [hq0, hq1]
        exact (if_neg (by show ¬ ((3 : Int) = 1); decide)).trans ((if_neg (by show ¬ ((3 : Int) = 2); decide)).trans ((if_pos (by show (3 : Int) = 3; decide)).trans rfl))
      have Hq0 := Lib.hid hq0
      have Hq1 := Lib.hid hq1
      have HE1 := Lib.hid e1
      clear e1 hq0 hq1
      go_wp2_with (refine wpList_load_row rfl 24 _ rfl w.heap.size rfl 24 #[.int .i64 3, .int .i64 o, .int .i64 m, .string (bs s), .slice A n c] (0, 0) _ HK.out Try.underlying24 rfl expr_size ?_)
      refine (HCB.out 0 false false true W HBW.out).mono ?_
      rintro f w2 ⟨rfl, hb2⟩
      rw [← Hq0.out]
      have HB2 := Lib.hid hb2
      have k1 : w2.cell? ⟨w.heap.size, 1, none⟩ = some (.int .i64 o) := (HK.out.below hb2 HK.out.lt).cell 1
      have k2 : w2.cell? ⟨w.heap.size, 2, none⟩ = some (.int .i64 m) := (HK.out.below hb2 HK.out.lt).cell 2
      have k3 : w2.cell? ⟨w.heap.size, 3, none⟩ = some (.string (bs s)) := (HK.out.below hb2 HK.out.lt).cell 3
      have k4 : w2.cell? ⟨w.heap.size, 4, none⟩ = some (.slice A n c) := (HK.out.below hb2 HK.out.lt).cell 4
      clear hb2
      cases q0 with
      | false =>
        go_wp2_with fail
        go_meet
        case rel => exact ⟨by rw [HE1.out] <;> rfl, HB2.out⟩
      | true =>
        go_wp2_with fail
        refine (HNM.out w2).mono ?_
        rintro f w3 ⟨rfl, rfl⟩
        rw [← Hq1.out]
        go_wp2_with fail
        go_meet
        case rel => exact ⟨by rw [HE1.out] <;> rfl, HB2.out⟩
    by_cases h4 : k = 4
    · subst h4
      obtain ⟨q0, hq0⟩ : ∃ q, q = bareE (.mk 4 o m s A n c es) 1 false false false := ⟨_, rfl⟩
      have e1 : okE nmB said (.mk 4 o m s A n c es) = (q0) := by
        rw [hq0]
        exact (if_neg (by show ¬ ((4 : Int) = 1); decide)).trans ((if_neg (by show ¬ ((4 : Int) = 2); decide)).trans ((if_neg (by show ¬ ((4 : Int) = 3); decide)).trans ((if_pos (by show (4 : Int) = 4 ∨ (4 : Int) = 5 ∨ (4 : Int) = 11; decide)).trans rfl)))
      have Hq0 := Lib.hid hq0
      have HE1 := Lib.hid e1
      clear e1 hq0
      go_wp2_with (refine wpList_load_row rfl 24 _ rfl w.heap.size rfl 24 #[.int .i64 4, .int .i64 o, .int .i64 m, .string (bs s), .slice A n c] (0, 0) _ HK.out Try.underlying24 rfl expr_size ?_)
      refine (HCB.out 1 false false false W HBW.out).mono ?_
      rintro f w2 ⟨rfl, hb2⟩
      rw [← Hq0.out]
      have HB2 := Lib.hid hb2
      have k1 : w2.cell? ⟨w.heap.size, 1, none⟩ = some (.int .i64 o) := (HK.out.below hb2 HK.out.lt).cell 1
      have k2 : w2.cell? ⟨w.heap.size, 2, none⟩ = some (.int .i64 m) := (HK.out.below hb2 HK.out.lt).cell 2
      have k3 : w2.cell? ⟨w.heap.size, 3, none⟩ = some (.string (bs s)) := (HK.out.below hb2 HK.out.lt).cell 3
      have k4 : w2.cell? ⟨w.heap.size, 4, none⟩ = some (.slice A n c) := (HK.out.below hb2 HK.out.lt).cell 4
      clear hb2
      go_wp2_with fail
      go_meet
      case rel => exact ⟨by rw [HE1.out] <;> rfl, HB2.out⟩
    by_cases h5 : k = 5
    · subst h5
      obtain ⟨q0, hq0⟩ : ∃ q, q = bareE (.mk 5 o m s A n c es) 1 false false false := ⟨_, rfl⟩
      have e1 : okE nmB said (.mk 5 o m s A n c es) = (q0) := by
        rw [hq0]
        exact (if_neg (by show ¬ ((5 : Int) = 1); decide)).trans ((if_neg (by show ¬ ((5 : Int) = 2); decide)).trans ((if_neg (by show ¬ ((5 : Int) = 3); decide)).trans ((if_pos (by show (5 : Int) = 4 ∨ (5 : Int) = 5 ∨ (5 : Int) = 11; decide)).trans rfl)))
      have Hq0 := Lib.hid hq0
      have HE1 := Lib.hid e1
      clear e1 hq0
      go_wp2_with (refine wpList_load_row rfl 24 _ rfl w.heap.size rfl 24 #[.int .i64 5, .int .i64 o, .int .i64 m, .string (bs s), .slice A n c] (0, 0) _ HK.out Try.underlying24 rfl expr_size ?_)
      refine (HCB.out 1 false false false W HBW.out).mono ?_
      rintro f w2 ⟨rfl, hb2⟩
      rw [← Hq0.out]
      have HB2 := Lib.hid hb2
      have k1 : w2.cell? ⟨w.heap.size, 1, none⟩ = some (.int .i64 o) := (HK.out.below hb2 HK.out.lt).cell 1
      have k2 : w2.cell? ⟨w.heap.size, 2, none⟩ = some (.int .i64 m) := (HK.out.below hb2 HK.out.lt).cell 2
      have k3 : w2.cell? ⟨w.heap.size, 3, none⟩ = some (.string (bs s)) := (HK.out.below hb2 HK.out.lt).cell 3
      have k4 : w2.cell? ⟨w.heap.size, 4, none⟩ = some (.slice A n c) := (HK.out.below hb2 HK.out.lt).cell 4
      clear hb2
      go_wp2_with fail
      go_meet
      case rel => exact ⟨by rw [HE1.out] <;> rfl, HB2.out⟩
    by_cases h11 : k = 11
    · subst h11
      obtain ⟨q0, hq0⟩ : ∃ q, q = bareE (.mk 11 o m s A n c es) 1 false false false := ⟨_, rfl⟩
      have e1 : okE nmB said (.mk 11 o m s A n c es) = (q0) := by
        rw [hq0]
        exact (if_neg (by show ¬ ((11 : Int) = 1); decide)).trans ((if_neg (by show ¬ ((11 : Int) = 2); decide)).trans ((if_neg (by show ¬ ((11 : Int) = 3); decide)).trans ((if_pos (by show (11 : Int) = 4 ∨ (11 : Int) = 5 ∨ (11 : Int) = 11; decide)).trans rfl)))
      have Hq0 := Lib.hid hq0
      have HE1 := Lib.hid e1
      clear e1 hq0
      go_wp2_with (refine wpList_load_row rfl 24 _ rfl w.heap.size rfl 24 #[.int .i64 11, .int .i64 o, .int .i64 m, .string (bs s), .slice A n c] (0, 0) _ HK.out Try.underlying24 rfl expr_size ?_)
      refine (HCB.out 1 false false false W HBW.out).mono ?_
      rintro f w2 ⟨rfl, hb2⟩
      rw [← Hq0.out]
      have HB2 := Lib.hid hb2
      have k1 : w2.cell? ⟨w.heap.size, 1, none⟩ = some (.int .i64 o) := (HK.out.below hb2 HK.out.lt).cell 1
      have k2 : w2.cell? ⟨w.heap.size, 2, none⟩ = some (.int .i64 m) := (HK.out.below hb2 HK.out.lt).cell 2
      have k3 : w2.cell? ⟨w.heap.size, 3, none⟩ = some (.string (bs s)) := (HK.out.below hb2 HK.out.lt).cell 3
      have k4 : w2.cell? ⟨w.heap.size, 4, none⟩ = some (.slice A n c) := (HK.out.below hb2 HK.out.lt).cell 4
      clear hb2
      go_wp2_with fail
      go_meet
      case rel => exact ⟨by rw [HE1.out] <;> rfl, HB2.out⟩
    by_cases h13 : k = 13
    · subst h13
      obtain ⟨q1, hq1⟩ : ∃ q, q = bareE (.mk 13 o m s A n c es) 1 false false false := ⟨_, rfl⟩
      have e1 : okE nmB said (.mk 13 o m s A n c es) = (said && q1) := by
        rw [hq1]
        exact (if_neg (by show ¬ ((13 : Int) = 1); decide)).trans ((if_neg (by show ¬ ((13 : Int) = 2); decide)).trans ((if_neg (by show ¬ ((13 : Int) = 3); decide)).trans ((if_neg (by show ¬ ((13 : Int) = 4 ∨ (13 : Int) = 5 ∨ (13 : Int) = 11); decide)).trans ((if_pos (by show (13 : Int) = 13; decide)).trans rfl))))
      have Hq1 := Lib.hid hq1
      have HE1 := Lib.hid e1
      clear e1 hq1
      cases said with
      | false =>
        go_wp2_with fail
        go_meet
        case rel => exact ⟨by rw [HE1.out] <;> rfl, HB0.out⟩
      | true =>
        go_wp2_with (refine wpList_load_row rfl 24 _ rfl w.heap.size rfl 24 #[.int .i64 13, .int .i64 o, .int .i64 m, .string (bs s), .slice A n c] (0, 0) _ HK.out Try.underlying24 rfl expr_size ?_)
        refine (HCB.out 1 false false false W HBW.out).mono ?_
        rintro f w2 ⟨rfl, hb2⟩
        rw [← Hq1.out]
        have HB2 := Lib.hid hb2
        have k1 : w2.cell? ⟨w.heap.size, 1, none⟩ = some (.int .i64 o) := (HK.out.below hb2 HK.out.lt).cell 1
        have k2 : w2.cell? ⟨w.heap.size, 2, none⟩ = some (.int .i64 m) := (HK.out.below hb2 HK.out.lt).cell 2
        have k3 : w2.cell? ⟨w.heap.size, 3, none⟩ = some (.string (bs s)) := (HK.out.below hb2 HK.out.lt).cell 3
        have k4 : w2.cell? ⟨w.heap.size, 4, none⟩ = some (.slice A n c) := (HK.out.below hb2 HK.out.lt).cell 4
        clear hb2
        go_wp2_with fail
        go_meet
        case rel => exact ⟨by rw [HE1.out] <;> rfl, HB2.out⟩
    by_cases h6 : k = 6
    · subst h6
      obtain ⟨q0, hq0⟩ : ∃ q, q = bareE (.mk 6 o m s A n c es) 2 true false false := ⟨_, rfl⟩
      obtain ⟨q1, hq1⟩ : ∃ q, q = amongB o 1 14 := ⟨_, rfl⟩
      have e1 : okE nmB said (.mk 6 o m s A n c es) = (q0 && q1) := by
        rw [hq0, hq1]
        exact (if_neg (by show ¬ ((6 : Int) = 1); decide)).trans ((if_neg (by show ¬ ((6 : Int) = 2); decide)).trans ((if_neg (by show ¬ ((6 : Int) = 3); decide)).trans ((if_neg (by show ¬ ((6 : Int) = 4 ∨ (6 : Int) = 5 ∨ (6 : Int) = 11); decide)).trans ((if_neg (by show ¬ ((6 : Int) = 13); decide)).trans ((if_pos (by show (6 : Int) = 6; decide)).trans rfl)))))
      have Hq0 := Lib.hid hq0
      have Hq1 := Lib.hid hq1
      have HE1 := Lib.hid e1
      clear e1 hq0 hq1
      go_wp2_with (refine wpList_load_row rfl 24 _ rfl w.heap.size rfl 24 #[.int .i64 6, .int .i64 o, .int .i64 m, .string (bs s), .slice A n c] (0, 0) _ HK.out Try.underlying24 rfl expr_size ?_)
      refine (HCB.out 2 true false false W HBW.out).mono ?_
      rintro f w2 ⟨rfl, hb2⟩
      rw [← Hq0.out]
      have HB2 := Lib.hid hb2
      have k1 : w2.cell? ⟨w.heap.size, 1, none⟩ = some (.int .i64 o) := (HK.out.below hb2 HK.out.lt).cell 1
      have k2 : w2.cell? ⟨w.heap.size, 2, none⟩ = some (.int .i64 m) := (HK.out.below hb2 HK.out.lt).cell 2
      have k3 : w2.cell? ⟨w.heap.size, 3, none⟩ = some (.string (bs s)) := (HK.out.below hb2 HK.out.lt).cell 3
      have k4 : w2.cell? ⟨w.heap.size, 4, none⟩ = some (.slice A n c) := (HK.out.below hb2 HK.out.lt).cell 4
      clear hb2
      cases q0 with
      | false =>
        go_wp2_with fail
        go_meet
        case rel => exact ⟨by rw [HE1.out] <;> rfl, HB2.out⟩
      | true =>
        go_wp2_with fail
        refine (r10among_any w2 o 1 14).mono ?_
        rintro f w3 ⟨rfl, rfl⟩
        rw [← Hq1.out]
        go_wp2_with fail
        go_meet
        case rel => exact ⟨by rw [HE1.out] <;> rfl, HB2.out⟩
    by_cases h7 : k = 7
    · subst h7
      obtain ⟨q0, hq0⟩ : ∃ q, q = bareE (.mk 7 o m s A n c es) 1 false false true := ⟨_, rfl⟩
      obtain ⟨q1, hq1⟩ : ∃ q, q = nmB s := ⟨_, rfl⟩
      have e1 : okE nmB said (.mk 7 o m s A n c es) = (q0 && q1) := by
        rw [hq0, hq1]
        exact (if_neg (by show ¬ ((7 : Int) = 1); decide)).trans ((if_neg (by show ¬ ((7 : Int) = 2); decide)).trans ((if_neg (by show ¬ ((7 : Int) = 3); decide)).trans ((if_neg (by show ¬ ((7 : Int) = 4 ∨ (7 : Int) = 5 ∨ (7 : Int) = 11); decide)).trans ((if_neg (by show ¬ ((7 : Int) = 13); decide)).trans ((if_neg (by show ¬ ((7 : Int) = 6); decide)).trans ((if_pos (by show (7 : Int) = 7 ∨ (7 : Int) = 8; decide)).trans rfl))))))
      have Hq0 := Lib.hid hq0
      have Hq1 := Lib.hid hq1
      have HE1 := Lib.hid e1
      clear e1 hq0 hq1
      go_wp2_with (refine wpList_load_row rfl 24 _ rfl w.heap.size rfl 24 #[.int .i64 7, .int .i64 o, .int .i64 m, .string (bs s), .slice A n c] (0, 0) _ HK.out Try.underlying24 rfl expr_size ?_)
      refine (HCB.out 1 false false true W HBW.out).mono ?_
      rintro f w2 ⟨rfl, hb2⟩
      rw [← Hq0.out]
      have HB2 := Lib.hid hb2
      have k1 : w2.cell? ⟨w.heap.size, 1, none⟩ = some (.int .i64 o) := (HK.out.below hb2 HK.out.lt).cell 1
      have k2 : w2.cell? ⟨w.heap.size, 2, none⟩ = some (.int .i64 m) := (HK.out.below hb2 HK.out.lt).cell 2
      have k3 : w2.cell? ⟨w.heap.size, 3, none⟩ = some (.string (bs s)) := (HK.out.below hb2 HK.out.lt).cell 3
      have k4 : w2.cell? ⟨w.heap.size, 4, none⟩ = some (.slice A n c) := (HK.out.below hb2 HK.out.lt).cell 4
      clear hb2
      cases q0 with
      | false =>
        go_wp2_with fail
        go_meet
        case rel => exact ⟨by rw [HE1.out] <;> rfl, HB2.out⟩
      | true =>
        go_wp2_with fail
        refine (HNM.out w2).mono ?_
        rintro f w3 ⟨rfl, rfl⟩
        rw [← Hq1.out]
        go_wp2_with fail
        go_meet
        case rel => exact ⟨by rw [HE1.out] <;> rfl, HB2.out⟩
    by_cases h8 : k = 8
    · subst h8
      obtain ⟨q0, hq0⟩ : ∃ q, q = bareE (.mk 8 o m s A n c es) 1 false false true := ⟨_, rfl⟩
      obtain ⟨q1, hq1⟩ : ∃ q, q = nmB s := ⟨_, rfl⟩
      have e1 : okE nmB said (.mk 8 o m s A n c es) = (q0 && q1) := by
        rw [hq0, hq1]
        exact (if_neg (by show ¬ ((8 : Int) = 1); decide)).trans ((if_neg (by show ¬ ((8 : Int) = 2); decide)).trans ((if_neg (by show ¬ ((8 : Int) = 3); decide)).trans ((if_neg (by show ¬ ((8 : Int) = 4 ∨ (8 : Int) = 5 ∨ (8 : Int) = 11); decide)).trans ((if_neg (by show ¬ ((8 : Int) = 13); decide)).trans ((if_neg (by show ¬ ((8 : Int) = 6); decide)).trans ((if_pos (by show (8 : Int) = 7 ∨ (8 : Int) = 8; decide)).trans rfl))))))
      have Hq0 := Lib.hid hq0
      have Hq1 := Lib.hid hq1
      have HE1 := Lib.hid e1
      clear e1 hq0 hq1
      go_wp2_with (refine wpList_load_row rfl 24 _ rfl w.heap.size rfl 24 #[.int .i64 8, .int .i64 o, .int .i64 m, .string (bs s), .slice A n c] (0, 0) _ HK.out Try.underlying24 rfl expr_size ?_)
      refine (HCB.out 1 false false true W HBW.out).mono ?_
      rintro f w2 ⟨rfl, hb2⟩
      rw [← Hq0.out]
      have HB2 := Lib.hid hb2
      have k1 : w2.cell? ⟨w.heap.size, 1, none⟩ = some (.int .i64 o) := (HK.out.below hb2 HK.out.lt).cell 1
      have k2 : w2.cell? ⟨w.heap.size, 2, none⟩ = some (.int .i64 m) := (HK.out.below hb2 HK.out.lt).cell 2
      have k3 : w2.cell? ⟨w.heap.size, 3, none⟩ = some (.string (bs s)) := (HK.out.below hb2 HK.out.lt).cell 3
      have k4 : w2.cell? ⟨w.heap.size, 4, none⟩ = some (.slice A n c) := (HK.out.below hb2 HK.out.lt).cell 4
      clear hb2
      cases q0 with
      | false =>
        go_wp2_with fail
        go_meet
        case rel => exact ⟨by rw [HE1.out] <;> rfl, HB2.out⟩
      | true =>
        go_wp2_with fail
        refine (HNM.out w2).mono ?_
        rintro f w3 ⟨rfl, rfl⟩
        rw [← Hq1.out]
        go_wp2_with fail
        go_meet
        case rel => exact ⟨by rw [HE1.out] <;> rfl, HB2.out⟩
    by_cases h9 : k = 9
    · subst h9
      obtain ⟨q0, hq0'⟩ : ∃ q, q = bareE (.mk 9 o m s A n c es) n false false true := ⟨_, rfl⟩
      have hq0 : q0 = bareE (.mk 9 o m s A n c es) es.length false false true := by rw [hq0', HL.out]
      obtain ⟨q1, hq1⟩ : ∃ q, q = decide (es.length ≤ 8) := ⟨_, rfl⟩
      obtain ⟨q2, hq2⟩ : ∃ q, q = nmB s := ⟨_, rfl⟩
      have e1 : okE nmB said (.mk 9 o m s A n c es) = (q0 && q1 && q2) := by
        rw [hq0, hq1, hq2]
        exact (if_neg (by show ¬ ((9 : Int) = 1); decide)).trans ((if_neg (by show ¬ ((9 : Int) = 2); decide)).trans ((if_neg (by show ¬ ((9 : Int) = 3); decide)).trans ((if_neg (by show ¬ ((9 : Int) = 4 ∨ (9 : Int) = 5 ∨ (9 : Int) = 11); decide)).trans ((if_neg (by show ¬ ((9 : Int) = 13); decide)).trans ((if_neg (by show ¬ ((9 : Int) = 6); decide)).trans ((if_neg (by show ¬ ((9 : Int) = 7 ∨ (9 : Int) = 8); decide)).trans ((if_pos (by show (9 : Int) = 9; decide)).trans rfl)))))))
      have Hq0 := Lib.hid hq0'
      have Hq1 := Lib.hid hq1
      have Hq2 := Lib.hid hq2
      have HE1 := Lib.hid e1
      clear e1 hq0 hq1 hq2 hq0'
      go_wp2_with (refine wpList_load_row rfl 24 _ rfl w.heap.size rfl 24 #[.int .i64 9, .int .i64 o, .int .i64 m, .string (bs s), .slice A n c] (0, 0) _ HK.out Try.underlying24 rfl expr_size ?_)
      refine (HCB.out n false false true W HBW.out).mono ?_
      rintro f w2 ⟨rfl, hb2⟩
      rw [← Hq0.out]
      have HB2 := Lib.hid hb2
      have k1 : w2.cell? ⟨w.heap.size, 1, none⟩ = some (.int .i64 o) := (HK.out.below hb2 HK.out.lt).cell 1
      have k2 : w2.cell? ⟨w.heap.size, 2, none⟩ = some (.int .i64 m) := (HK.out.below hb2 HK.out.lt).cell 2
      have k3 : w2.cell? ⟨w.heap.size, 3, none⟩ = some (.string (bs s)) := (HK.out.below hb2 HK.out.lt).cell 3
      have k4 : w2.cell? ⟨w.heap.size, 4, none⟩ = some (.slice A n c) := (HK.out.below hb2 HK.out.lt).cell 4
      clear hb2
      cases q0 with
      | false =>
        go_wp2_with fail
        go_meet
        case rel => exact ⟨by rw [HE1.out] <;> rfl, HB2.out⟩
      | true =>
        by_cases h8 : es.length ≤ 8
        · have hn8 : (n : Int) ≤ 8 := by have := HL.out; omega
          have hq1 : q1 = true := by rw [Hq1.out]; exact decide_eq_true h8
          clear h8
          go_wp2_with fail
          refine (HNM.out w2).mono ?_
          rintro f w3 ⟨rfl, rfl⟩
          rw [← Hq2.out]
          go_wp2_with fail
          go_meet
          case rel => exact ⟨by rw [HE1.out, hq1] <;> rfl, HB2.out⟩
        · have hn8 : ¬ (n : Int) ≤ 8 := by have := HL.out; omega
          have hq1 : q1 = false := by rw [Hq1.out]; exact decide_eq_false h8
          clear h8
          go_wp2_with fail
          go_meet
          case rel => exact ⟨by rw [HE1.out, hq1] <;> rfl, HB2.out⟩
    by_cases h10 : k = 10
    · subst h10
      obtain ⟨q0, hq0⟩ : ∃ q, q = bareE (.mk 10 o m s A n c es) 1 true false false := ⟨_, rfl⟩
      obtain ⟨q1, hq1⟩ : ∃ q, q = amongB o 1 3 := ⟨_, rfl⟩
      have e1 : okE nmB said (.mk 10 o m s A n c es) = (q0 && q1) := by
        rw [hq0, hq1]
        exact (if_neg (by show ¬ ((10 : Int) = 1); decide)).trans ((if_neg (by show ¬ ((10 : Int) = 2); decide)).trans ((if_neg (by show ¬ ((10 : Int) = 3); decide)).trans ((if_neg (by show ¬ ((10 : Int) = 4 ∨ (10 : Int) = 5 ∨ (10 : Int) = 11); decide)).trans ((if_neg (by show ¬ ((10 : Int) = 13); decide)).trans ((if_neg (by show ¬ ((10 : Int) = 6); decide)).trans ((if_neg (by show ¬ ((10 : Int) = 7 ∨ (10 : Int) = 8); decide)).trans ((if_neg (by show ¬ ((10 : Int) = 9); decide)).trans ((if_pos (by show (10 : Int) = 10; decide)).trans rfl))))))))
      have Hq0 := Lib.hid hq0
      have Hq1 := Lib.hid hq1
      have HE1 := Lib.hid e1
      clear e1 hq0 hq1
      go_wp2_with (refine wpList_load_row rfl 24 _ rfl w.heap.size rfl 24 #[.int .i64 10, .int .i64 o, .int .i64 m, .string (bs s), .slice A n c] (0, 0) _ HK.out Try.underlying24 rfl expr_size ?_)
      refine (HCB.out 1 true false false W HBW.out).mono ?_
      rintro f w2 ⟨rfl, hb2⟩
      rw [← Hq0.out]
      have HB2 := Lib.hid hb2
      have k1 : w2.cell? ⟨w.heap.size, 1, none⟩ = some (.int .i64 o) := (HK.out.below hb2 HK.out.lt).cell 1
      have k2 : w2.cell? ⟨w.heap.size, 2, none⟩ = some (.int .i64 m) := (HK.out.below hb2 HK.out.lt).cell 2
      have k3 : w2.cell? ⟨w.heap.size, 3, none⟩ = some (.string (bs s)) := (HK.out.below hb2 HK.out.lt).cell 3
      have k4 : w2.cell? ⟨w.heap.size, 4, none⟩ = some (.slice A n c) := (HK.out.below hb2 HK.out.lt).cell 4
      clear hb2
      cases q0 with
      | false =>
        go_wp2_with fail
        go_meet
        case rel => exact ⟨by rw [HE1.out] <;> rfl, HB2.out⟩
      | true =>
        go_wp2_with fail
        refine (r10among_any w2 o 1 3).mono ?_
        rintro f w3 ⟨rfl, rfl⟩
        rw [← Hq1.out]
        go_wp2_with fail
        go_meet
        case rel => exact ⟨by rw [HE1.out] <;> rfl, HB2.out⟩
    by_cases h12 : k = 12
    · subst h12
      obtain ⟨q0, hq0⟩ : ∃ q, q = bareE (.mk 12 o m s A n c es) 0 true false false := ⟨_, rfl⟩
      obtain ⟨q1, hq1⟩ : ∃ q, q = amongB o 1 6 := ⟨_, rfl⟩
      have e1 : okE nmB said (.mk 12 o m s A n c es) = (q0 && q1) := by
        rw [hq0, hq1]
        exact (if_neg (by show ¬ ((12 : Int) = 1); decide)).trans ((if_neg (by show ¬ ((12 : Int) = 2); decide)).trans ((if_neg (by show ¬ ((12 : Int) = 3); decide)).trans ((if_neg (by show ¬ ((12 : Int) = 4 ∨ (12 : Int) = 5 ∨ (12 : Int) = 11); decide)).trans ((if_neg (by show ¬ ((12 : Int) = 13); decide)).trans ((if_neg (by show ¬ ((12 : Int) = 6); decide)).trans ((if_neg (by show ¬ ((12 : Int) = 7 ∨ (12 : Int) = 8); decide)).trans ((if_neg (by show ¬ ((12 : Int) = 9); decide)).trans ((if_neg (by show ¬ ((12 : Int) = 10); decide)).trans ((if_pos (by show (12 : Int) = 12; decide)).trans rfl)))))))))
      have Hq0 := Lib.hid hq0
      have Hq1 := Lib.hid hq1
      have HE1 := Lib.hid e1
      clear e1 hq0 hq1
      go_wp2_with (refine wpList_load_row rfl 24 _ rfl w.heap.size rfl 24 #[.int .i64 12, .int .i64 o, .int .i64 m, .string (bs s), .slice A n c] (0, 0) _ HK.out Try.underlying24 rfl expr_size ?_)
      refine (HCB.out 0 true false false W HBW.out).mono ?_
      rintro f w2 ⟨rfl, hb2⟩
      rw [← Hq0.out]
      have HB2 := Lib.hid hb2
      have k1 : w2.cell? ⟨w.heap.size, 1, none⟩ = some (.int .i64 o) := (HK.out.below hb2 HK.out.lt).cell 1
      have k2 : w2.cell? ⟨w.heap.size, 2, none⟩ = some (.int .i64 m) := (HK.out.below hb2 HK.out.lt).cell 2
      have k3 : w2.cell? ⟨w.heap.size, 3, none⟩ = some (.string (bs s)) := (HK.out.below hb2 HK.out.lt).cell 3
      have k4 : w2.cell? ⟨w.heap.size, 4, none⟩ = some (.slice A n c) := (HK.out.below hb2 HK.out.lt).cell 4
      clear hb2
      cases q0 with
      | false =>
        go_wp2_with fail
        go_meet
        case rel => exact ⟨by rw [HE1.out] <;> rfl, HB2.out⟩
      | true =>
        go_wp2_with fail
        refine (r10among_any w2 o 1 6).mono ?_
        rintro f w3 ⟨rfl, rfl⟩
        rw [← Hq1.out]
        go_wp2_with fail
        go_meet
        case rel => exact ⟨by rw [HE1.out] <;> rfl, HB2.out⟩
    have e1 : okE nmB said (.mk k o m s A n c es) = false := (if_neg (by show ¬ (k = 1); omega)).trans ((if_neg (by show ¬ (k = 2); omega)).trans ((if_neg (by show ¬ (k = 3); omega)).trans ((if_neg (by show ¬ (k = 4 ∨ k = 5 ∨ k = 11); omega)).trans ((if_neg (by show ¬ (k = 13); omega)).trans ((if_neg (by show ¬ (k = 6); omega)).trans ((if_neg (by show ¬ (k = 7 ∨ k = 8); omega)).trans ((if_neg (by show ¬ (k = 9); omega)).trans ((if_neg (by show ¬ (k = 10); omega)).trans ((if_neg (by show ¬ (k = 12); omega)).trans (rfl))))))))))
    have t1 : (k == 1) = false := by rw [beq_eq_false_iff_ne]; exact h1
    have t2 : (k == 2) = false := by rw [beq_eq_false_iff_ne]; exact h2
    have t3 : (k == 3) = false := by rw [beq_eq_false_iff_ne]; exact h3
    have t4 : (k == 4) = false := by rw [beq_eq_false_iff_ne]; exact h4
    have t5 : (k == 5) = false := by rw [beq_eq_false_iff_ne]; exact h5
    have t11 : (k == 11) = false := by rw [beq_eq_false_iff_ne]; exact h11
    have t13 : (k == 13) = false := by rw [beq_eq_false_iff_ne]; exact h13
    have t6 : (k == 6) = false := by rw [beq_eq_false_iff_ne]; exact h6
    have t7 : (k == 7) = false := by rw [beq_eq_false_iff_ne]; exact h7
    have t8 : (k == 8) = false := by rw [beq_eq_false_iff_ne]; exact h8
    have t9 : (k == 9) = false := by rw [beq_eq_false_iff_ne]; exact h9
    have t10 : (k == 10) = false := by rw [beq_eq_false_iff_ne]; exact h10
    have t12 : (k == 12) = false := by rw [beq_eq_false_iff_ne]; exact h12
    have HE1 := Lib.hid e1
    clear e1 h1 h2 h3 h4 h5 h11 h13 h6 h7 h8 h9 h10 h12
    go_wp2_with fail
    go_meet
    case rel => exact ⟨by rw [HE1.out], HB0.out⟩
  case rest =>
    obtain ⟨rfl, hbc⟩ := hcut
    obtain ⟨ok, hok⟩ : ∃ ok, ok = okE nmB said (.mk k o m s A n c es) := ⟨_, rfl⟩
    rw [← hok]
    have HBC := Lib.hid hbc
    have HOK := Lib.hid hok
    have k4 : wc.cell? ⟨w.heap.size, 4, none⟩ = some (.slice A n c) := (HK.out.below HBC.out HK.out.lt).cell 4
    have HBC0 := Lib.hid (HBW.out.trans (HBC.out.mono HBW.out.size))
    clear hbc hok
    go_wp2_with fail
    go_loopw [5, 111] (fun vb vi wr => ∃ (j : Nat) (b : Bool), j ≤ n ∧ vi = .int .i64 j ∧ vb = .bool b ∧ Hid (b = (ok && (es.take j).all (rightE nmB false))) ∧ Hid (Below wc.heap.size wc wr)) (fun _ vi _ => n - (intOf vi).toNat)
    case atStart => exact ⟨0, ok, Nat.zero_le _, rfl, rfl, Lib.hid (by rw [List.take_zero, List.all_nil, Bool.and_true]), Lib.hid (Below.refl _ _)⟩
    case round =>
      obtain ⟨j, b, hj, rfl, rfl, HV, HB⟩ := hrel
      have HBR := Lib.hid (HBC0.out.trans (HB.out.mono HBC0.out.size))
      by_cases hlt : j < n
      · have hst := all_take (p := rightE nmB false) (l := es) (j := j) (d := nilE) (by rw [HL.out]; exact hlt)
        have hxjl : j < es.length := by rw [HL.out]; exact hlt
        obtain ⟨xad, rfl, xab, xc⟩ := row_at (HR.out.below HBR.out) hlt
        have hx := HA.out.at hxjl
        have hxmem : (es[j]?.getD nilE) ∈ es := by rw [List.getElem?_eq_getElem hxjl]; exact List.getElem_mem _
        obtain ⟨x, hxe⟩ : ∃ x, x = es[j]?.getD nilE := ⟨_, rfl⟩
        obtain ⟨a0, a1, a2, a3, a4⟩ := xc x hxe
        rw [← hxe] at hx hxmem
        have HXx := Lib.hid hx
        have HEx := Lib.hid hxe
        have HMx := Lib.hid hxmem
        rw [← hxe] at hst
        have HC := Lib.hid (IH.out _ hxmem false)
        obtain ⟨xk, xo, xm, xs, xA, xn, xc', xes⟩ := x
        change wr.cell? (xad.add (j * 5)) = some (.int .i64 xk) at a0
        change wr.cell? ⟨(xad.add (j * 5)).block, (xad.add (j * 5)).off + 1, none⟩ = some (.int .i64 xo) at a1
        change wr.cell? ⟨(xad.add (j * 5)).block, (xad.add (j * 5)).off + 2, none⟩ = some (.int .i64 xm) at a2
        change wr.cell? ⟨(xad.add (j * 5)).block, (xad.add (j * 5)).off + 3, none⟩ = some (.string (bs xs)) at a3
        change wr.cell? ⟨(xad.add (j * 5)).block, (xad.add (j * 5)).off + 4, none⟩ = some (.slice xA xn xc') at a4
        clear xc hxe hx hxmem hxjl
        have HST := Lib.hid hst
        obtain ⟨q, hq⟩ : ∃ q, q = rightE nmB false (.mk xk xo xm xs xA xn xc' xes) := ⟨_, rfl⟩
        have HN : Hid ((b && q) = (ok && (es.take (j + 1)).all (rightE nmB false))) := Lib.hid (by rw [HST.out, HV.out, hq, Bool.and_assoc])
        have HQ := Lib.hid hq
        clear hst hq
        cases b with
        | false =>
          go_wp2_with (refine wpList_store_row rfl 24 _ _ rfl wr.heap.size #[.int .i64 xk, .int .i64 xo, .int .i64 xm, .string (bs xs), .slice xA xn xc'] rfl rfl _ _ (Blk.new wr _ _) expr_size rfl (expr_one _ _ _ _ _ _ _) ?_; obtain ⟨V, hV⟩ : ∃ V, V = (wr.alloc (.cells #[.int .i64 0, .int .i64 0, .int .i64 0, .string ⟨#[]⟩, .slice none 0 0] 24)).setRow wr.heap.size #[.int .i64 xk, .int .i64 xo, .int .i64 xm, .string (bs xs), .slice xA xn xc'] := ⟨_, rfl⟩; rw [← hV]; obtain ⟨hkV, hbV⟩ := put_row hV; have HKV := Lib.hid hkV; have HBV := Lib.hid hbV; clear hV hkV hbV)
          have HB2 := Lib.hid (HB.out.trans (HBV.out.mono HB.out.size))
          go_roundw
          case rel => exact ⟨j + 1, false, by omega, by go_num, rfl, HN, HB2⟩
          case measure => simp [intOf]; omega
        | true =>
          go_wp2_with (refine wpList_store_row rfl 24 _ _ rfl wr.heap.size #[.int .i64 xk, .int .i64 xo, .int .i64 xm, .string (bs xs), .slice xA xn xc'] rfl rfl _ _ (Blk.new wr _ _) expr_size rfl (expr_one _ _ _ _ _ _ _) ?_; obtain ⟨V, hV⟩ : ∃ V, V = (wr.alloc (.cells #[.int .i64 0, .int .i64 0, .int .i64 0, .string ⟨#[]⟩, .slice none 0 0] 24)).setRow wr.heap.size #[.int .i64 xk, .int .i64 xo, .int .i64 xm, .string (bs xs), .slice xA xn xc'] := ⟨_, rfl⟩; rw [← hV]; obtain ⟨hkV, hbV⟩ := put_row hV; have HKV := Lib.hid hkV; have HBV := Lib.hid hbV; clear hV hkV hbV; have v0 : V.cell? ⟨wr.heap.size, 0, none⟩ = some (.int .i64 xk) := HKV.out.cell 0; have v1 : V.cell? ⟨wr.heap.size, 1, none⟩ = some (.int .i64 xo) := HKV.out.cell 1; have v2 : V.cell? ⟨wr.heap.size, 2, none⟩ = some (.int .i64 xm) := HKV.out.cell 2; have v3 : V.cell? ⟨wr.heap.size, 3, none⟩ = some (.string (bs xs)) := HKV.out.cell 3; have v4 : V.cell? ⟨wr.heap.size, 4, none⟩ = some (.slice xA xn xc') := HKV.out.cell 4)
          clear v0 v1 v2 v3 v4
          have HBV2 := Lib.hid (HBR.out.trans (HBV.out.mono HBR.out.size))
          refine (HC.out V (EL.In.more HBV2.out.size (HXx.out.below HBV2.out))).mono ?_
          rintro f w2 ⟨rfl, hb2⟩
          rw [← HQ.out]
          have HB2 := Lib.hid (HB.out.trans ((HBV.out.trans (hb2.mono HBV.out.size)).mono HB.out.size))
          clear hb2
          go_wp2_with fail
          go_roundw
          case rel => exact ⟨j + 1, q, by omega, by go_num, rfl, by have := HN; rwa [Bool.true_and] at this, HB2⟩
          case measure => simp [intOf]; omega
      · obtain rfl : j = n := by omega
        have HE : Hid (es.take j = es) := Lib.hid (List.take_of_length_le (by rw [HL.out]; exact Nat.le_refl _))
        go_wp2_with fail
        go_ret
        rw [HV.out, HE.out, HOK.out]
        exact ⟨rfl, HBR.out⟩

set_option maxRecDepth 100000 in
set_option maxHeartbeats 6400000 in
theorem r10Right_any (e : EL) (w : World) (hin : e.In w w.heap.size) :
    Calls Try.prog 12 #[eVal e] w fun f w' => f = .returned (.bool (rightB nmB e)) ∧ Below w.heap.size w w' := by
  have hc : ∀ W : World, Below w.heap.size w W → Calls Try.prog 29 #[eVal e] W fun f w' => f = .returned (.int .i64 ((min 65 (depE e) : Nat) : Int)) ∧ Below W.heap.size W w' := fun W hb => r10Depth_any e W (EL.In.more hb.size (hin.below hb))
  have hr : ∀ W : World, Below w.heap.size w W → Calls Try.prog 34 #[eVal e, .bool true] W fun f w' => f = .returned (.bool (rightE nmB true e)) ∧ Below W.heap.size W w' := fun W hb => r10right_any e true W (EL.In.more hb.size (hin.below hb))
  unfold rightB
  obtain ⟨d, hd⟩ : ∃ d, d = min 65 (depE e) := ⟨_, rfl⟩
  have he : decide (depE e ≤ 32) = decide (d ≤ 32) := decide_eq_decide.2 (by omega)
  rw [he]
  obtain ⟨q, hq⟩ : ∃ q, q = rightE nmB true e := ⟨_, rfl⟩
  rw [← hq]
  rw [← hd] at hc
  rw [← hq] at hr
  clear he hd hq
  obtain ⟨k, o, m, s, A, n, c, es⟩ := e
  have hc' : ∀ W : World, Below w.heap.size w W → Calls Try.prog 29 #[.agg #[.int .i64 k, .int .i64 o, .int .i64 m, .string (bs s), .slice A n c]] W fun f w' => f = .returned (.int .i64 (d : Nat)) ∧ Below W.heap.size W w' := hc
  have hr' : ∀ W : World, Below w.heap.size w W → Calls Try.prog 34 #[.agg #[.int .i64 k, .int .i64 o, .int .i64 m, .string (bs s), .slice A n c], .bool true] W fun f w' => f = .returned (.bool q) ∧ Below W.heap.size W w' := hr
  have HC := Lib.hid hc'
  have HR := Lib.hid hr'
  obtain ⟨W, hW⟩ : ∃ W, W = w.alloc (.cells #[.int .i64 k, .int .i64 o, .int .i64 m, .string (bs s), .slice A n c] 24) := ⟨_, rfl⟩
  have HBW : Hid (Below w.heap.size w W) := Lib.hid (by rw [hW]; exact (Below.refl _ _).alloc (Nat.le_refl _) _)
  have HK : Hid (Blk W w.heap.size 24 #[.int .i64 k, .int .i64 o, .int .i64 m, .string (bs s), .slice A n c]) := Lib.hid (by rw [hW]; exact Blk.new _ _ _)
  show Calls Try.prog _ #[.agg #[.int .i64 k, .int .i64 o, .int .i64 m, .string (bs s), .slice A n c]] w _
  clear hc hc' hr hr' hin
  go_enter Try.func12, Try.ntmps12
  go_wp2_with fail
  rw [← hW]
  clear hW
  refine (HC.out W HBW.out).mono ?_
  rintro f w2 ⟨rfl, hb2⟩
  have HB2 := Lib.hid hb2
  clear hb2
  have HBF := Lib.hid (HBW.out.trans (HB2.out.mono HBW.out.size))
  by_cases h32 : d ≤ 32
  · have t1 : (d : Int) ≤ 32 := by omega
    have e1 : (decide (d ≤ 32) && q) = q := by rw [decide_eq_true h32, Bool.true_and]
    have E1 := Lib.hid e1
    clear h32 e1
    have k0 : w2.cell? ⟨w.heap.size, 0, none⟩ = some (.int .i64 k) := (HK.out.below HB2.out HK.out.lt).cell 0
    have k1 : w2.cell? ⟨w.heap.size, 1, none⟩ = some (.int .i64 o) := (HK.out.below HB2.out HK.out.lt).cell 1
    have k2 : w2.cell? ⟨w.heap.size, 2, none⟩ = some (.int .i64 m) := (HK.out.below HB2.out HK.out.lt).cell 2
    have k3 : w2.cell? ⟨w.heap.size, 3, none⟩ = some (.string (bs s)) := (HK.out.below HB2.out HK.out.lt).cell 3
    have k4 : w2.cell? ⟨w.heap.size, 4, none⟩ = some (.slice A n c) := (HK.out.below HB2.out HK.out.lt).cell 4
    go_wp2_with fail
    refine (HR.out w2 HBF.out).mono ?_
    rintro f w3 ⟨rfl, hb3⟩
    go_wp2_with fail
    go_ret
    rw [E1.out]
    exact ⟨rfl, HBF.out.trans (hb3.mono HBF.out.size)⟩
  · have t1 : ¬ (d : Int) ≤ 32 := by omega
    have e1 : (decide (d ≤ 32) && q) = false := by rw [decide_eq_false h32, Bool.false_and]
    have E1 := Lib.hid e1
    clear h32 e1
    go_wp2_with fail
    go_ret
    rw [E1.out]
    exact ⟨rfl, HBF.out⟩

end Go.Proofs.Ytdmpadonnobeaaa
