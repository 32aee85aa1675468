/- Contracts of the reference's among, bare, has, name. -/
import Derived.Test.YtdmpadonnobeaaaTreD
import Derived.Test.YtdmpadonnobeaaaTreP
import Derived.Test.YtdmpadonnobeaaaLexG
import Derived.Test.YtdmpadonnobeaaaTellsR
namespace Go.Proofs.Ytdmpadonnobeaaa
open Go.RowKit

set_option maxRecDepth 100000 in
set_option maxHeartbeats 6400000 in
theorem r10among_any (w : World) (n lo hi : Int) : Calls Try.prog 55 #[.int .i64 n, .int .i64 lo, .int .i64 hi] w fun f w' => f = .returned (.bool (amongB n lo hi)) ∧ w = w' := by
  by_cases h1 : lo ≤ n
  · by_cases h2 : n ≤ hi
    · have e : amongB n lo hi = true := by unfold amongB; simp [h1, h2]
      rw [e]
      clear e
      go_enter Try.func55, Try.ntmps55
      go_wp2_with fail
      go_ret
      exact ⟨rfl, rfl⟩
    · have e : amongB n lo hi = false := by unfold amongB; simp [h2]
      have t1 : ¬ n ≤ hi := h2
      rw [e]
      clear e
      go_enter Try.func55, Try.ntmps55
      go_wp2_with fail
      go_ret
      exact ⟨rfl, rfl⟩
  · have e : amongB n lo hi = false := by unfold amongB; simp [h1]
    rw [e]
    clear e
    go_enter Try.func55, Try.ntmps55
    go_wp2_with fail
    go_ret
    exact ⟨rfl, rfl⟩

/-- a name of a source -/
def nmB (s : List UInt8) : Bool := nameB s && !keyB s

set_option maxRecDepth 100000 in
set_option maxHeartbeats 6400000 in
theorem r10name_any (w : World) (s : ByteArray) (hs : (s.size : Int) ≤ 9223372036854775807) : Calls Try.prog 57 #[.string s] w fun f w' => f = .returned (.bool (nmB s.data.toList)) ∧ w = w' := by
  have HC := Lib.hid (rname_any w s hs)
  have HK := Lib.hid (r9Key_any w s)
  obtain ⟨a, ha⟩ : ∃ a, a = nameB s.data.toList := ⟨_, rfl⟩
  obtain ⟨b, hb⟩ : ∃ b, b = keyB s.data.toList := ⟨_, rfl⟩
  unfold nmB
  rw [← ha] at HC ⊢
  rw [← hb] at HK ⊢
  clear ha hb
  cases a with
  | false =>
    go_enter Try.func57, Try.ntmps57
    go_wp2_with fail
    refine HC.out.mono ?_
    rintro e w2 ⟨rfl, rfl⟩
    go_wp2_with fail
    go_ret
    exact ⟨rfl, rfl⟩
  | true =>
    go_enter Try.func57, Try.ntmps57
    go_wp2_with fail
    refine HC.out.mono ?_
    rintro e w2 ⟨rfl, rfl⟩
    go_wp2_with fail
    refine HK.out.mono ?_
    rintro e w2 ⟨rfl, rfl⟩
    cases b with
    | false =>
      go_wp2_with fail
      go_ret
      exact ⟨rfl, rfl⟩
    | true =>
      go_wp2_with fail
      go_ret
      exact ⟨rfl, rfl⟩

theorem bs_nil {s : List UInt8} : (bs s).toList.isEmpty = true ↔ s = [] := by
  rw [bs_list9, List.isEmpty_iff]

set_option maxRecDepth 100000 in
set_option maxHeartbeats 6400000 in
theorem r10bare_any (e : EL) (b : Nat) (op num named : Bool) (w : World) (hrow : RowE w w.heap.size e.A e.n e.args) :
    Calls Try.prog 54 #[eVal e, .int .i64 b, .bool op, .bool num, .bool named] w fun f w' => f = .returned (.bool (bareE e b op num named)) ∧ Below w.heap.size w w' := by
  obtain ⟨k, o, m, s, A, n, c, es⟩ := e
  have hn : es.length = n := hrow.1
  show Calls Try.prog _ #[.agg #[.int .i64 k, .int .i64 o, .int .i64 m, .string (bs s), .slice A n c], .int .i64 b, .bool op, .bool num, .bool named] w fun f w' => f = .returned (.bool (decide (es.length = b) && (op || decide (o = 0)) && (num || decide (m = 0)) && (named || s.isEmpty))) ∧ Below w.heap.size w w'
  have HBW : Hid (Below w.heap.size w (w.alloc (.cells #[.int .i64 k, .int .i64 o, .int .i64 m, .string (bs s), .slice A n c] 24))) := Lib.hid ((Below.refl _ _).alloc (Nat.le_refl _) _)
  obtain ⟨r, hr⟩ : ∃ r, r = (decide (es.length = b) && (op || decide (o = 0)) && (num || decide (m = 0)) && (named || s.isEmpty)) := ⟨_, rfl⟩
  rw [← hr]
  have HRR := Lib.hid hr
  clear hrow hr
  by_cases h1 : es.length = b
  · have th1 : ((n : Int) == (b : Int)) = true := by rw [beq_iff_eq]; omega
    cases op with
    | true =>
      cases num with
      | true =>
        cases named with
        | true =>
          have e : r = true := by rw [HRR.out]; simp [h1]
          rw [e]
          clear e HRR h1
          go_enter Try.func54, Try.ntmps54
          go_wp2_with fail
          go_ret
          exact ⟨rfl, HBW.out⟩
        | false =>
          by_cases h4 : s = []
          · have th4 : (bs s).toList.isEmpty = true := bs_nil.2 h4
            have e : r = true := by rw [HRR.out]; simp [h1, h4]
            rw [e]
            clear e HRR h1 h4
            go_enter Try.func54, Try.ntmps54
            go_wp2_with fail
            go_ret
            exact ⟨rfl, HBW.out⟩
          · have th4 : (bs s).toList.isEmpty = false := by rw [Bool.eq_false_iff]; exact fun e => h4 (bs_nil.1 e)
            have e : r = false := by rw [HRR.out]; simp [h1, h4]
            rw [e]
            clear e HRR h1 h4
            go_enter Try.func54, Try.ntmps54
            go_wp2_with fail
            go_ret
            exact ⟨rfl, HBW.out⟩

      | false =>
        by_cases h3 : m = 0
        · have th3 : (m == 0) = true := by rw [beq_iff_eq]; exact h3
          cases named with
          | true =>
            have e : r = true := by rw [HRR.out]; simp [h1, h3]
            rw [e]
            clear e HRR h1 h3
            go_enter Try.func54, Try.ntmps54
            go_wp2_with fail
            go_ret
            exact ⟨rfl, HBW.out⟩
          | false =>
            by_cases h4 : s = []
            · have th4 : (bs s).toList.isEmpty = true := bs_nil.2 h4
              have e : r = true := by rw [HRR.out]; simp [h1, h3, h4]
              rw [e]
              clear e HRR h1 h3 h4
              go_enter Try.func54, Try.ntmps54
              go_wp2_with fail
              go_ret
              exact ⟨rfl, HBW.out⟩
            · have th4 : (bs s).toList.isEmpty = false := by rw [Bool.eq_false_iff]; exact fun e => h4 (bs_nil.1 e)
              have e : r = false := by rw [HRR.out]; simp [h1, h3, h4]
              rw [e]
              clear e HRR h1 h3 h4
              go_enter Try.func54, Try.ntmps54
              go_wp2_with fail
              go_ret
              exact ⟨rfl, HBW.out⟩

        · have th3 : (m == 0) = false := by rw [beq_eq_false_iff_ne]; exact h3
          have e : r = false := by rw [HRR.out]; simp [h1, h3]
          rw [e]
          clear e HRR h1 h3
          go_enter Try.func54, Try.ntmps54
          go_wp2_with fail
          go_ret
          exact ⟨rfl, HBW.out⟩

    | false =>
      by_cases h2 : o = 0
      · have th2 : (o == 0) = true := by rw [beq_iff_eq]; exact h2
        cases num with
        | true =>
          cases named with
          | true =>
            have e : r = true := by rw [HRR.out]; simp [h1, h2]
            rw [e]
            clear e HRR h1 h2
            go_enter Try.func54, Try.ntmps54
            go_wp2_with fail
            go_ret
            exact ⟨rfl, HBW.out⟩
          | false =>
            by_cases h4 : s = []
            · have th4 : (bs s).toList.isEmpty = true := bs_nil.2 h4
              have e : r = true := by rw [HRR.out]; simp [h1, h2, h4]
              rw [e]
              clear e HRR h1 h2 h4
              go_enter Try.func54, Try.ntmps54
              go_wp2_with fail
              go_ret
              exact ⟨rfl, HBW.out⟩
            · have th4 : (bs s).toList.isEmpty = false := by rw [Bool.eq_false_iff]; exact fun e => h4 (bs_nil.1 e)
              have e : r = false := by rw [HRR.out]; simp [h1, h2, h4]
              rw [e]
              clear e HRR h1 h2 h4
              go_enter Try.func54, Try.ntmps54
              go_wp2_with fail
              go_ret
              exact ⟨rfl, HBW.out⟩

        | false =>
          by_cases h3 : m = 0
          · have th3 : (m == 0) = true := by rw [beq_iff_eq]; exact h3
            cases named with
            | true =>
              have e : r = true := by rw [HRR.out]; simp [h1, h2, h3]
              rw [e]
              clear e HRR h1 h2 h3
              go_enter Try.func54, Try.ntmps54
              go_wp2_with fail
              go_ret
              exact ⟨rfl, HBW.out⟩
            | false =>
              by_cases h4 : s = []
              · have th4 : (bs s).toList.isEmpty = true := bs_nil.2 h4
                have e : r = true := by rw [HRR.out]; simp [h1, h2, h3, h4]
                rw [e]
                clear e HRR h1 h2 h3 h4
                go_enter Try.func54, Try.ntmps54
                go_wp2_with fail
                go_ret
                exact ⟨rfl, HBW.out⟩
              · have th4 : (bs s).toList.isEmpty = false := by rw [Bool.eq_false_iff]; exact fun e => h4 (bs_nil.1 e)
                have e : r = false := by rw [HRR.out]; simp [h1, h2, h3, h4]
                rw [e]
                clear e HRR h1 h2 h3 h4
                go_enter Try.func54, Try.ntmps54
                go_wp2_with fail
                go_ret
                exact ⟨rfl, HBW.out⟩

          · have th3 : (m == 0) = false := by rw [beq_eq_false_iff_ne]; exact h3
            have e : r = false := by rw [HRR.out]; simp [h1, h2, h3]
            rw [e]
            clear e HRR h1 h2 h3
            go_enter Try.func54, Try.ntmps54
            go_wp2_with fail
            go_ret
            exact ⟨rfl, HBW.out⟩

      · have th2 : (o == 0) = false := by rw [beq_eq_false_iff_ne]; exact h2
        have e : r = false := by rw [HRR.out]; simp [h1, h2]
        rw [e]
        clear e HRR h1 h2
        go_enter Try.func54, Try.ntmps54
        go_wp2_with fail
        go_ret
        exact ⟨rfl, HBW.out⟩

  · have th1 : ((n : Int) == (b : Int)) = false := by rw [beq_eq_false_iff_ne]; omega
    have e : r = false := by rw [HRR.out]; simp [h1]
    rw [e]
    clear e HRR h1
    go_enter Try.func54, Try.ntmps54
    go_wp2_with fail
    go_ret
    exact ⟨rfl, HBW.out⟩

end Go.Proofs.Ytdmpadonnobeaaa
