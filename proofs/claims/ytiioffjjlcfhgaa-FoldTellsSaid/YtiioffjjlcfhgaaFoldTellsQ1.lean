/- Contracts and lemmas that the proofs of this seat use. -/
import Derived.Test.YtiioffjjlcfhgaaQ4
import Derived.Test.YtiioffjjlcfhgaaRows
import Derived.IntWalk
import Derived.Laws.Rows
import Derived.BigQuiet
import Derived.Deep.QuietTactic
import Derived.Lib.Strings
import Derived.Laws.EntriesVeiled
import Derived.Deep.RegionWith
import Derived.Deep.RegionHeldLaw
namespace Go.Proofs.Ytiioffjjlcfhgaa

section
open Go.RowKit
set_option linter.unusedVariables false

/-- so far the same -/
theorem sameEs_at : ∀ {a b : List EL}, a.length = b.length → (sameEs a b = true ↔ ∀ j, j < a.length → sameE (a[j]?.getD nilE) (b[j]?.getD nilE) = true) := by
  intro a
  induction a with
  | nil =>
    intro b h
    rw [List.length_nil] at h
    rw [List.eq_nil_of_length_eq_zero h.symm]
    unfold sameEs
    exact ⟨fun _ j hj => absurd hj (Nat.not_lt_zero _), fun _ => rfl⟩
  | cons x a ih =>
    intro b h
    cases b with
    | nil => rw [List.length_nil, List.length_cons] at h; omega
    | cons y b =>
      rw [List.length_cons, List.length_cons] at h
      rw [sameEs_cons, Bool.and_eq_true, ih (by omega)]
      constructor
      · rintro ⟨h1, h2⟩ j hj
        cases j with
        | zero => exact h1
        | succ j => exact h2 j (by rw [List.length_cons] at hj; omega)
      · intro h2
        exact ⟨h2 0 (by rw [List.length_cons]; omega), fun j hj => h2 (j + 1) (by rw [List.length_cons]; omega)⟩

end

section
open Go.RowKit
set_option linter.unusedVariables false

theorem sameSs_at : ∀ {a b : List SL}, a.length = b.length → (sameSs a b = true ↔ ∀ j, j < a.length → sameS (a[j]?.getD nilS) (b[j]?.getD nilS) = true) := by
  intro a
  induction a with
  | nil =>
    intro b h
    rw [List.length_nil] at h
    rw [List.eq_nil_of_length_eq_zero h.symm]
    unfold sameSs
    exact ⟨fun _ j hj => absurd hj (Nat.not_lt_zero _), fun _ => rfl⟩
  | cons x a ih =>
    intro b h
    cases b with
    | nil => rw [List.length_nil, List.length_cons] at h; omega
    | cons y b =>
      rw [List.length_cons, List.length_cons] at h
      rw [sameSs_cons, Bool.and_eq_true, ih (by omega)]
      constructor
      · rintro ⟨h1, h2⟩ j hj
        cases j with
        | zero => exact h1
        | succ j => exact h2 j (by rw [List.length_cons] at hj; omega)
      · intro h2
        exact ⟨h2 0 (by rw [List.length_cons]; omega), fun j hj => h2 (j + 1) (by rw [List.length_cons]; omega)⟩

end

section
open Go.RowKit
set_option linter.unusedVariables false
set_option linter.unusedSimpArgs false

set_option maxHeartbeats 1000000 in
theorem r1Wrap_any (n : Int) (w : World) : Calls Try.prog 34 #[.int .i64 n] w fun e w' => e = .returned (.int .i64 (wrapV n)) ∧ w' = w := by
  obtain ⟨m, hm⟩ : ∃ m, m = n.tmod 65536 := ⟨_, rfl⟩
  have hlt := Int.tmod_lt_of_pos n (show (0 : Int) < 65536 by decide)
  have hgt : -65536 < n.tmod 65536 := by
    rcases Int.le_total 0 n with h | h
    · have := Int.tmod_nonneg 65536 h
      omega
    · have h3 := Int.tmod_lt_of_pos (-n) (show (0 : Int) < 65536 by decide)
      rw [Int.neg_tmod] at h3
      omega
  rw [← hm] at hlt hgt
  have HW : Hid (wrapV n = if m < -32768 then m + 65536 else if 32767 < m then m - 65536 else m) := Lib.hid (by rw [hm]; rfl)
  obtain ⟨v, hv⟩ : ∃ v, v = wrapV n := ⟨_, rfl⟩
  rw [← hv] at HW ⊢
  clear hv
  go_enter Try.func34, Try.ntmps34
  go_wp2_with fail
  · go_ret
    exact ⟨by rw [HW.out, if_pos (show m < -32768 by omega), hm]; rfl, rfl⟩
  · go_ret
    exact ⟨by rw [HW.out, if_neg (show ¬ m < -32768 by omega), if_pos (show 32767 < m by omega), hm]; rfl, rfl⟩
  · go_ret
    exact ⟨by rw [HW.out, if_neg (show ¬ m < -32768 by omega), if_neg (show ¬ 32767 < m by omega), hm]; rfl, rfl⟩

set_option maxHeartbeats 1000000 in
theorem r1Add_any (a b : Int) (w : World) : Calls Try.prog 54 #[.int .i64 a, .int .i64 b] w fun e w' => e = .returned (.int .i64 (addV a b)) ∧ w' = w := by
  have ha := wrapV_range a
  have hb := wrapV_range b
  have H1 := Lib.hid (r1Wrap_any a w)
  have H2 := Lib.hid (r1Wrap_any b w)
  have H3 := Lib.hid (r1Wrap_any (wrapV a + wrapV b) w)
  have HV : Hid (addV a b = wrapV (wrapV a + wrapV b)) := Lib.hid rfl
  generalize wrapV a = x at ha H1 H3 HV
  generalize wrapV b = y at hb H2 H3 HV
  have wq : IntKind.i64.wrap (x + y) = x + y := by rw [IntKind.wrap_i64]; omega
  have wq2 : wrap64 (x + y) = x + y := IntWalk.wrap64_in _ (by omega)
  go_enter Try.func54, Try.ntmps54
  go_wp2_with fail
  refine H1.out.mono ?_
  rintro e w1 ⟨rfl, rfl⟩
  go_wp2_with fail
  refine H2.out.mono ?_
  rintro e w2 ⟨rfl, rfl⟩
  go_wp2_with fail
  refine H3.out.mono ?_
  rintro e w3 ⟨rfl, rfl⟩
  go_wp2_with fail
  go_ret
  exact ⟨by rw [HV.out]; rfl, rfl⟩

set_option maxHeartbeats 1000000 in
theorem r1Sub_any (a b : Int) (w : World) : Calls Try.prog 55 #[.int .i64 a, .int .i64 b] w fun e w' => e = .returned (.int .i64 (subV a b)) ∧ w' = w := by
  have ha := wrapV_range a
  have hb := wrapV_range b
  have H1 := Lib.hid (r1Wrap_any a w)
  have H2 := Lib.hid (r1Wrap_any b w)
  have H3 := Lib.hid (r1Wrap_any (wrapV a - wrapV b) w)
  have HV : Hid (subV a b = wrapV (wrapV a - wrapV b)) := Lib.hid rfl
  generalize wrapV a = x at ha H1 H3 HV
  generalize wrapV b = y at hb H2 H3 HV
  have wq : IntKind.i64.wrap (x - y) = x - y := by rw [IntKind.wrap_i64]; omega
  have wq2 : wrap64 (x - y) = x - y := IntWalk.wrap64_in _ (by omega)
  go_enter Try.func55, Try.ntmps55
  go_wp2_with fail
  refine H1.out.mono ?_
  rintro e w1 ⟨rfl, rfl⟩
  go_wp2_with fail
  refine H2.out.mono ?_
  rintro e w2 ⟨rfl, rfl⟩
  go_wp2_with fail
  refine H3.out.mono ?_
  rintro e w3 ⟨rfl, rfl⟩
  go_wp2_with fail
  go_ret
  exact ⟨by rw [HV.out]; rfl, rfl⟩

set_option maxHeartbeats 1000000 in
theorem r1Mul_any (a b : Int) (w : World) : Calls Try.prog 56 #[.int .i64 a, .int .i64 b] w fun e w' => e = .returned (.int .i64 (mulV a b)) ∧ w' = w := by
  have ha := wrapV_range a
  have hb := wrapV_range b
  have H1 := Lib.hid (r1Wrap_any a w)
  have H2 := Lib.hid (r1Wrap_any b w)
  have H3 := Lib.hid (r1Wrap_any (wrapV a * wrapV b) w)
  have HV : Hid (mulV a b = wrapV (wrapV a * wrapV b)) := Lib.hid rfl
  generalize wrapV a = x at ha H1 H3 HV
  generalize wrapV b = y at hb H2 H3 HV
  have hxy : -1073741824 ≤ x * y ∧ x * y ≤ 1073741824 := by
    obtain ⟨a1, a2⟩ := ha
    obtain ⟨b1, b2⟩ := hb
    have h1 : 0 ≤ (32768 - x) * (32768 + y) := Int.mul_nonneg (by omega) (by omega)
    have h2 : 0 ≤ (32768 + x) * (32768 - y) := Int.mul_nonneg (by omega) (by omega)
    have h3 : 0 ≤ (32768 + x) * (32768 + y) := Int.mul_nonneg (by omega) (by omega)
    have h4 : 0 ≤ (32768 - x) * (32768 - y) := Int.mul_nonneg (by omega) (by omega)
    rw [Int.sub_mul, Int.mul_add, Int.mul_add] at h1
    rw [Int.add_mul, Int.mul_sub, Int.mul_sub] at h2
    rw [Int.add_mul, Int.mul_add, Int.mul_add] at h3
    rw [Int.sub_mul, Int.mul_sub, Int.mul_sub] at h4
    omega
  have wq : IntKind.i64.wrap (x * y) = x * y := by rw [IntKind.wrap_i64]; omega
  have wq2 : wrap64 (x * y) = x * y := IntWalk.wrap64_in _ (by omega)
  go_enter Try.func56, Try.ntmps56
  go_wp2_with fail
  refine H1.out.mono ?_
  rintro e w1 ⟨rfl, rfl⟩
  go_wp2_with fail
  refine H2.out.mono ?_
  rintro e w2 ⟨rfl, rfl⟩
  go_wp2_with fail
  refine H3.out.mono ?_
  rintro e w3 ⟨rfl, rfl⟩
  go_wp2_with fail
  go_ret
  exact ⟨by rw [HV.out]; rfl, rfl⟩

set_option maxHeartbeats 1000000 in
theorem r1Neg_any (a : Int) (w : World) : Calls Try.prog 32 #[.int .i64 a] w fun e w' => e = .returned (.int .i64 (negV a)) ∧ w' = w := by
  have ha := wrapV_range a
  have H1 := Lib.hid (r1Wrap_any a w)
  have H3 := Lib.hid (r1Wrap_any (0 - wrapV a) w)
  have HV : Hid (negV a = wrapV (0 - wrapV a)) := Lib.hid rfl
  generalize wrapV a = x at ha H1 H3 HV
  have wq : IntKind.i64.wrap (0 - x) = 0 - x := by rw [IntKind.wrap_i64]; omega
  have wq2 : wrap64 (0 - x) = 0 - x := IntWalk.wrap64_in _ (by omega)
  rw [show (0 : Int) - x = -x by omega] at H3 HV
  go_enter Try.func32, Try.ntmps32
  go_wp2_with fail
  refine H1.out.mono ?_
  rintro e w1 ⟨rfl, rfl⟩
  go_wp2_with fail
  refine (by first | exact H3.out | (rw [show (0 : Int) - x = -x by omega]; exact H3.out) : Calls _ _ _ _ _).mono ?_
  rintro e w3 ⟨rfl, rfl⟩
  go_wp2_with fail
  go_ret
  exact ⟨by rw [HV.out]; rfl, rfl⟩

end

section
open Go.RowKit
set_option linter.unusedVariables false
set_option linter.unusedSimpArgs false

set_option maxHeartbeats 1000000 in
theorem r1Div_any (a b : Int) (w : World) : Calls Try.prog 57 #[.int .i64 a, .int .i64 b] w fun e w' => e = .returned (.tuple #[.int .i64 (divV a b).1, .int .i64 (divV a b).2]) ∧ w' = w := by
  have ha := wrapV_range a
  have hb := wrapV_range b
  have H1 := Lib.hid (r1Wrap_any a w)
  have H2 := Lib.hid (r1Wrap_any b w)
  have HV : Hid (divV a b = if wrapV b = 0 then (0, 1) else (wrapV ((wrapV a).tdiv (wrapV b)), 0)) := Lib.hid rfl
  generalize wrapV a = x at ha H1 HV
  generalize wrapV b = y at hb H2 HV
  have hq := tdiv_bound x y ha.1 ha.2
  obtain ⟨q, hq0⟩ : ∃ q, q = x.tdiv y := ⟨_, rfl⟩
  rw [← hq0] at hq HV
  have wq : IntKind.i64.wrap (x.tdiv y) = q := by rw [← hq0, IntKind.wrap_i64]; omega
  have wq2 : wrap64 (x.tdiv y) = q := by rw [← hq0]; exact IntWalk.wrap64_in _ (by omega)
  clear hq0
  go_enter Try.func57, Try.ntmps57
  go_wp2_with fail
  refine H2.out.mono ?_
  rintro e w1 ⟨rfl, rfl⟩
  by_cases hy : y = 0
  · have HR := Lib.hid (HV.out.trans (if_pos hy))
    subst hy
    go_wp2_with fail
    go_ret2
    exact ⟨by rw [HR.out]; rfl, rfl⟩
  · have HR := Lib.hid (HV.out.trans (if_neg hy))
    go_wp2_with fail
    refine H1.out.mono ?_
    rintro e w2 ⟨rfl, rfl⟩
    go_wp2_with fail
    refine H2.out.mono ?_
    rintro e w3 ⟨rfl, rfl⟩
    go_wp2_with fail
    refine (r1Wrap_any _ _).mono ?_
    rintro e w4 ⟨rfl, rfl⟩
    go_wp2_with fail
    go_ret2
    exact ⟨by rw [HR.out]; rfl, rfl⟩

set_option maxHeartbeats 1000000 in
theorem r1Mod_any (a b : Int) (w : World) : Calls Try.prog 58 #[.int .i64 a, .int .i64 b] w fun e w' => e = .returned (.tuple #[.int .i64 (modV a b).1, .int .i64 (modV a b).2]) ∧ w' = w := by
  have ha := wrapV_range a
  have hb := wrapV_range b
  have H1 := Lib.hid (r1Wrap_any a w)
  have H2 := Lib.hid (r1Wrap_any b w)
  have HV : Hid (modV a b = if wrapV b = 0 then (0, 1) else ((wrapV a) - (wrapV a).tdiv (wrapV b) * (wrapV b), 0)) := Lib.hid rfl
  generalize wrapV a = x at ha H1 HV
  generalize wrapV b = y at hb H2 HV
  have hq := tdiv_bound x y ha.1 ha.2
  obtain ⟨q, hq0⟩ : ∃ q, q = x.tdiv y := ⟨_, rfl⟩
  rw [← hq0] at hq HV
  have wq : IntKind.i64.wrap (x.tdiv y) = q := by rw [← hq0, IntKind.wrap_i64]; omega
  have wq2 : wrap64 (x.tdiv y) = q := by rw [← hq0]; exact IntWalk.wrap64_in _ (by omega)
  clear hq0
  have hxy : -1073741824 ≤ q * y ∧ q * y ≤ 1073741824 := by
    obtain ⟨a1, a2⟩ := hq
    obtain ⟨b1, b2⟩ := hb
    have h1 : 0 ≤ (32768 - q) * (32768 + y) := Int.mul_nonneg (by omega) (by omega)
    have h2 : 0 ≤ (32768 + q) * (32768 - y) := Int.mul_nonneg (by omega) (by omega)
    have h3 : 0 ≤ (32768 + q) * (32768 + y) := Int.mul_nonneg (by omega) (by omega)
    have h4 : 0 ≤ (32768 - q) * (32768 - y) := Int.mul_nonneg (by omega) (by omega)
    rw [Int.sub_mul, Int.mul_add, Int.mul_add] at h1
    rw [Int.add_mul, Int.mul_sub, Int.mul_sub] at h2
    rw [Int.add_mul, Int.mul_add, Int.mul_add] at h3
    rw [Int.sub_mul, Int.mul_sub, Int.mul_sub] at h4
    omega
  have wm : IntKind.i64.wrap (q * y) = q * y := by rw [IntKind.wrap_i64]; omega
  have wm2 : wrap64 (q * y) = q * y := IntWalk.wrap64_in _ (by omega)
  have ws : IntKind.i64.wrap (x - q * y) = x - q * y := by rw [IntKind.wrap_i64]; omega
  have ws2 : wrap64 (x - q * y) = x - q * y := IntWalk.wrap64_in _ (by omega)
  go_enter Try.func58, Try.ntmps58
  go_wp2_with fail
  refine H2.out.mono ?_
  rintro e w1 ⟨rfl, rfl⟩
  by_cases hy : y = 0
  · have HR := Lib.hid (HV.out.trans (if_pos hy))
    subst hy
    go_wp2_with fail
    go_ret2
    exact ⟨by rw [HR.out]; rfl, rfl⟩
  · have HR := Lib.hid (HV.out.trans (if_neg hy))
    go_wp2_with fail
    refine H1.out.mono ?_
    rintro e w2 ⟨rfl, rfl⟩
    go_wp2_with fail
    refine H2.out.mono ?_
    rintro e w3 ⟨rfl, rfl⟩
    go_wp2_with fail
    refine H1.out.mono ?_
    rintro e w4 ⟨rfl, rfl⟩
    go_wp2_with fail
    refine H2.out.mono ?_
    rintro e w5 ⟨rfl, rfl⟩
    go_wp2_with fail
    go_ret2
    exact ⟨by rw [HR.out]; rfl, rfl⟩

set_option maxHeartbeats 1000000 in
theorem r18truth_any (b : Bool) (w : World) : Calls Try.prog 33 #[.bool b] w fun e w' => e = .returned (.int .i64 (truthV b)) ∧ w' = w := by
  cases b <;>
  · go_enter Try.func33, Try.ntmps33
    go_wp2_with fail
    go_ret
    exact ⟨rfl, rfl⟩

set_option maxRecDepth 100000 in
set_option maxHeartbeats 4000000 in
theorem r18holds_any (o a b : Int) (w : World) : Calls Try.prog 53 #[.int .i64 o, .int .i64 a, .int .i64 b] w fun e w' => e = .returned (.tuple #[.bool (holdsV o a b).1, .bool (holdsV o a b).2]) ∧ w' = w := by
  have H1 := Lib.hid (r1Wrap_any a w)
  have H2 := Lib.hid (r1Wrap_any b w)
  obtain ⟨R, hR⟩ : ∃ R, R = holdsV o a b := ⟨_, rfl⟩
  rw [← hR]
  unfold holdsV at hR
  generalize wrapV a = x at H1 hR
  generalize wrapV b = y at H2 hR
  have HR := Lib.hid hR
  clear hR
  go_enter Try.func53, Try.ntmps53
  go_wp2_with fail
  refine H1.out.mono ?_
  rintro e w1 ⟨rfl, rfl⟩
  go_wp2_with fail
  refine H2.out.mono ?_
  rintro e w2 ⟨rfl, rfl⟩
  by_cases h1 : o = 1
  · have HE := Lib.hid (HR.out.trans (by rw [if_pos h1]))
    subst h1
    by_cases hx : x = 0
    · subst hx
      by_cases hy : y = 0
      · subst hy
        go_wp2_with fail
        go_ret2
        exact ⟨by rw [HE.out]; first | rfl | (simp; done) | (simp [hx]; done), rfl⟩
      · have qy : (y != 0) = true := by simp [hy]
        go_wp2_with fail
        go_ret2
        exact ⟨by rw [HE.out]; first | rfl | (simp [hy]; done) | (simp [hx]; done) | (simp [hx, hy]; done), rfl⟩
    · have qx : (x != 0) = true := by simp [hx]
      by_cases hy : y = 0
      · subst hy
        go_wp2_with fail
        go_ret2
        exact ⟨by rw [HE.out]; first | rfl | (simp; done) | (simp [hx]; done), rfl⟩
      · have qy : (y != 0) = true := by simp [hy]
        go_wp2_with fail
        go_ret2
        exact ⟨by rw [HE.out]; first | rfl | (simp [hy]; done) | (simp [hx]; done) | (simp [hx, hy]; done), rfl⟩
  have q1 : (o == 1) = false := by simp [h1]
  by_cases h2 : o = 2
  · have HE := Lib.hid (HR.out.trans (by rw [if_neg h1, if_pos h2]))
    subst h2
    by_cases hx : x = 0
    · subst hx
      by_cases hy : y = 0
      · subst hy
        go_wp2_with fail
        go_ret2
        exact ⟨by rw [HE.out]; first | rfl | (simp; done) | (simp [hx]; done), rfl⟩
      · have qy : (y != 0) = true := by simp [hy]
        go_wp2_with fail
        go_ret2
        exact ⟨by rw [HE.out]; first | rfl | (simp [hy]; done) | (simp [hx]; done) | (simp [hx, hy]; done), rfl⟩
    · have qx : (x != 0) = true := by simp [hx]
      by_cases hy : y = 0
      · subst hy
        go_wp2_with fail
        go_ret2
        exact ⟨by rw [HE.out]; first | rfl | (simp; done) | (simp [hx]; done), rfl⟩
      · have qy : (y != 0) = true := by simp [hy]
        go_wp2_with fail
        go_ret2
        exact ⟨by rw [HE.out]; first | rfl | (simp [hy]; done) | (simp [hx]; done) | (simp [hx, hy]; done), rfl⟩
  have q2 : (o == 2) = false := by simp [h2]
  by_cases h3 : o = 3
  · have HE := Lib.hid (HR.out.trans (by rw [if_neg h1, if_neg h2, if_pos h3]))
    subst h3
    go_wp2_with fail
    go_ret2
    exact ⟨by rw [HE.out]; first | rfl | (simp; done) | (simp [bne, beq_dec18]; done), rfl⟩
  have q3 : (o == 3) = false := by simp [h3]
  by_cases h4 : o = 4
  · have HE := Lib.hid (HR.out.trans (by rw [if_neg h1, if_neg h2, if_neg h3, if_pos h4]))
    subst h4
    go_wp2_with fail
    go_ret2
    exact ⟨by rw [HE.out]; first | rfl | (simp; done) | (simp [bne, beq_dec18]; done), rfl⟩
  have q4 : (o == 4) = false := by simp [h4]
  by_cases h5 : o = 5
  · have HE := Lib.hid (HR.out.trans (by rw [if_neg h1, if_neg h2, if_neg h3, if_neg h4, if_pos h5]))
    subst h5
    go_wp2_with fail
    go_ret2
    exact ⟨by rw [HE.out]; first | rfl | (simp; done) | (simp [bne, beq_dec18]; done), rfl⟩
  have q5 : (o == 5) = false := by simp [h5]
  by_cases h6 : o = 6
  · have HE := Lib.hid (HR.out.trans (by rw [if_neg h1, if_neg h2, if_neg h3, if_neg h4, if_neg h5, if_pos h6]))
    subst h6
    go_wp2_with fail
    go_ret2
    exact ⟨by rw [HE.out]; first | rfl | (simp; done) | (simp [bne, beq_dec18]; done), rfl⟩
  have q6 : (o == 6) = false := by simp [h6]
  by_cases h7 : o = 7
  · have HE := Lib.hid (HR.out.trans (by rw [if_neg h1, if_neg h2, if_neg h3, if_neg h4, if_neg h5, if_neg h6, if_pos h7]))
    subst h7
    go_wp2_with fail
    go_ret2
    exact ⟨by rw [HE.out]; first | rfl | (simp; done) | (simp [bne, beq_dec18]; done), rfl⟩
  have q7 : (o == 7) = false := by simp [h7]
  by_cases h8 : o = 8
  · have HE := Lib.hid (HR.out.trans (by rw [if_neg h1, if_neg h2, if_neg h3, if_neg h4, if_neg h5, if_neg h6, if_neg h7, if_pos h8]))
    subst h8
    go_wp2_with fail
    go_ret2
    exact ⟨by rw [HE.out]; first | rfl | (simp; done) | (simp [bne, beq_dec18]; done), rfl⟩
  have q8 : (o == 8) = false := by simp [h8]
  have HE := Lib.hid (HR.out.trans (by rw [if_neg h1, if_neg h2, if_neg h3, if_neg h4, if_neg h5, if_neg h6, if_neg h7, if_neg h8]))
  go_wp2_with fail
  go_ret2
  exact ⟨by rw [HE.out]; rfl, rfl⟩

end

section
open Go.RowKit
set_option linter.unusedVariables false
set_option linter.unusedSimpArgs false

set_option maxRecDepth 100000 in
set_option maxHeartbeats 4000000 in
theorem r18bin_any (o a b : Int) (w : World) : Calls Try.prog 35 #[.int .i64 o, .int .i64 a, .int .i64 b] w fun e w' => e = .returned (.tuple #[.int .i64 (binV o a b).1, .bool (binV o a b).2]) ∧ w' = w := by
  obtain ⟨R, hR⟩ : ∃ R, R = binV o a b := ⟨_, rfl⟩
  rw [← hR]
  unfold binV at hR
  have H0 := Lib.hid (r18holds_any o a b w)
  obtain ⟨⟨y, q⟩, hq⟩ : ∃ p, p = holdsV o a b := ⟨_, rfl⟩
  rw [← hq] at H0 hR
  simp only at H0 hR
  clear hq
  have HR := Lib.hid hR
  clear hR
  go_enter Try.func35, Try.ntmps35
  go_wp2_with fail
  refine H0.out.mono ?_
  rintro e w1 ⟨rfl, rfl⟩
  cases q with
  | true =>
    have HE := Lib.hid (HR.out.trans (if_pos rfl))
    go_wp2_with fail
    refine (r18truth_any y _).mono ?_
    rintro e w2 ⟨rfl, rfl⟩
    go_wp2_with fail
    go_ret2
    exact ⟨by rw [HE.out]; rfl, rfl⟩
  | false =>
    have HN := Lib.hid (HR.out.trans (if_neg (by simp)))
    by_cases h10 : o = 10
    · have HE := Lib.hid (HN.out.trans (by rw [if_pos h10]))
      subst h10
      go_wp2_with fail
      refine (r1Add_any a b _).mono ?_
      rintro e w2 ⟨rfl, rfl⟩
      go_wp2_with fail
      go_ret2
      exact ⟨by rw [HE.out]; rfl, rfl⟩
    have q10 : (o == 10) = false := by simp [h10]
    by_cases h11 : o = 11
    · have HE := Lib.hid (HN.out.trans (by rw [if_neg h10, if_pos h11]))
      subst h11
      go_wp2_with fail
      refine (r1Sub_any a b _).mono ?_
      rintro e w2 ⟨rfl, rfl⟩
      go_wp2_with fail
      go_ret2
      exact ⟨by rw [HE.out]; rfl, rfl⟩
    have q11 : (o == 11) = false := by simp [h11]
    by_cases h12 : o = 12
    · have HE := Lib.hid (HN.out.trans (by rw [if_neg h10, if_neg h11, if_pos h12]))
      subst h12
      go_wp2_with fail
      refine (r1Mul_any a b _).mono ?_
      rintro e w2 ⟨rfl, rfl⟩
      go_wp2_with fail
      go_ret2
      exact ⟨by rw [HE.out]; rfl, rfl⟩
    have q12 : (o == 12) = false := by simp [h12]
    by_cases h13 : o = 13
    · have HE := Lib.hid (HN.out.trans (by rw [if_neg h10, if_neg h11, if_neg h12, if_pos h13]))
      subst h13
      go_wp2_with fail
      refine (r1Div_any a b _).mono ?_
      obtain ⟨⟨d1, d2⟩, hd⟩ : ∃ p, p = divV a b := ⟨_, rfl⟩
      rw [← hd] at HE ⊢
      simp only at HE ⊢
      clear hd
      rintro e w2 ⟨rfl, rfl⟩
      have qd : (d2 == 0) = decide (d2 = 0) := beq_dec18 d2 0
      go_wp2_with fail
      go_ret2
      exact ⟨by rw [HE.out]; first | rfl | (simp; done), rfl⟩
    have q13 : (o == 13) = false := by simp [h13]
    by_cases h14 : o = 14
    · have HE := Lib.hid (HN.out.trans (by rw [if_neg h10, if_neg h11, if_neg h12, if_neg h13, if_pos h14]))
      subst h14
      go_wp2_with fail
      refine (r1Mod_any a b _).mono ?_
      obtain ⟨⟨d1, d2⟩, hd⟩ : ∃ p, p = modV a b := ⟨_, rfl⟩
      rw [← hd] at HE ⊢
      simp only at HE ⊢
      clear hd
      rintro e w2 ⟨rfl, rfl⟩
      have qd : (d2 == 0) = decide (d2 = 0) := beq_dec18 d2 0
      go_wp2_with fail
      go_ret2
      exact ⟨by rw [HE.out]; first | rfl | (simp; done), rfl⟩
    have q14 : (o == 14) = false := by simp [h14]
    have HE := Lib.hid (HN.out.trans (by rw [if_neg h10, if_neg h11, if_neg h12, if_neg h13, if_neg h14]))
    go_wp2_with fail
    go_ret2
    exact ⟨by rw [HE.out]; rfl, rfl⟩

set_option maxHeartbeats 1000000 in
theorem r18number_any (e : EL) (w : World) : Calls Try.prog 30 #[eVal e] w fun f w' => f = .returned (.bool (decide (e.kind = 1))) ∧ Below w.heap.size w w' := by
  obtain ⟨k, o, m, s, A, n, c, es⟩ := e
  show Calls Try.prog _ #[.agg #[.int .i64 k, .int .i64 o, .int .i64 m, .string (bs s), .slice A n c]] w fun f w' => f = .returned (.bool (decide (k = 1))) ∧ Below w.heap.size w w'
  have qk : (k == 1) = decide (k = 1) := beq_dec18 k 1
  go_enter Try.func30, Try.ntmps30
  go_wp2_with fail
  go_ret
  refine ⟨?_, (Below.refl _ w).alloc (Nat.le_refl _) _⟩
  first | rfl | (rw [← qk]; rfl)

set_option maxHeartbeats 1000000 in
theorem r18num_any (m : Int) (w : World) : Calls Try.prog 31 #[.int .i64 m] w fun f w' => f = .returned (.agg #[.int .i64 1, .int .i64 0, .int .i64 m, .string ⟨#[]⟩, .slice none 0 0]) ∧ Below w.heap.size w w' := by
  obtain ⟨W, hW⟩ : ∃ W, W = w.alloc (.cells #[.int .i64 1, .int .i64 0, .int .i64 m, .string ⟨#[]⟩, .slice none 0 0] 31) := ⟨_, rfl⟩
  have HB : Hid (Below w.heap.size w W) := Lib.hid (by rw [hW]; exact (Below.refl _ _).alloc (Nat.le_refl _) _)
  have HK : Hid (Blk W w.heap.size 31 #[.int .i64 1, .int .i64 0, .int .i64 m, .string ⟨#[]⟩, .slice none 0 0]) := Lib.hid (by rw [hW]; exact Blk.new _ _ _)
  go_enter Try.func31, Try.ntmps31
  go_wp2_with fail
  rw [← hW]
  clear hW
  (try simp only [Exit.inBlock, Exit.then]); refine bodyPost_ret (results_cell_row rfl _ _ _ _ _ _ _ rfl HK.out Try.underlying31 rfl (by kernel_rfl)) rfl ?_
  exact ⟨rfl, HB.out⟩

end

section
open Go.RowKit
set_option linter.unusedVariables false
set_option linter.unusedSimpArgs false

set_option maxRecDepth 100000 in
set_option maxHeartbeats 6400000 in
theorem r18all_of (es : List EL) (hE : ∀ x ∈ es, FoldAt 10 x) (S : Nat → Prop) (A : Option Addr) (n c : Nat) (w : World) (hrow : RowE w w.heap.size A n es) (hins : ∀ x ∈ es, x.In w w.heap.size) (hat : ∀ x ∈ es, x.At S) (hS : ∀ b, S b → b < w.heap.size) (hlen : n * 64 ≤ 140737488355328) (hlit : ∀ x ∈ es, litP (plE x)) :
    Calls Try.prog 29 #[.slice A n c] w fun f w' => ∃ (A' : Option Addr) (c' : Nat) (ys : List EL), f = .returned (.slice A' n c') ∧ RowE w' w'.heap.size A' n ys ∧ (0 < n → ∀ ad : Addr, A' = some ad → w.heap.size ≤ ad.block) ∧ (∀ y ∈ ys, y.In w' w'.heap.size) ∧ (∀ y ∈ ys, y.At (fun b => S b ∨ w.heap.size ≤ b)) ∧
      ys.map plE = es.map (fun x => foldP (plE x)) ∧ Below w.heap.size w w' := by
  obtain ⟨i0, hi, hz0, hsz, hby⟩ := inf_parts inf_ex
  have hl := hrow.1
  have hn63 := hrow.2.1
  have HE := Lib.hid hE
  have HR := Lib.hid hrow
  have HIN := Lib.hid hins
  have HAT := Lib.hid hat
  have HSB := Lib.hid hS
  have HLT := Lib.hid hlit
  have HL := Lib.hid hl
  have HI := Lib.hid hi
  have HZ0 := Lib.hid hz0
  have HSZ := Lib.hid hsz
  have HBY := Lib.hid hby
  have HLE := Lib.hid hlen
  clear hE hrow hins hat hS hlit hl hi hz0 hsz hby
  go_enter Try.func29, Try.ntmps29
  go_wp2_with fail
  go_loopw [3, 4] (fun vo vi wr => ∃ (j cc : Nat) (AA : Option Addr) (ys : List EL), j ≤ n ∧ vi = .int .i64 j ∧ vo = .slice AA j cc ∧ Hid (wr.ownsRow w.heap.size 31 5 (.slice AA j cc) j (ecw ys)) ∧ Hid (∀ y ∈ ys, y.In wr wr.heap.size) ∧
    Hid (∀ y ∈ ys, y.At (fun b => (S b ∨ w.heap.size ≤ b) ∧ (Value.slice AA j cc).ownBlock ≠ some b)) ∧ Hid (ys.map plE = (es.take j).map (fun x => foldP (plE x))) ∧ Hid (Below w.heap.size w wr)) (fun _ vi _ => n - (intOf vi).toNat)
  case atStart => exact ⟨0, 0, none, [], Nat.zero_le _, rfl, rfl, Lib.hid (ownW_nil _ _ _), Lib.hid (by simp), Lib.hid (by simp), Lib.hid rfl, Lib.hid (Below.refl _ _)⟩
  case round =>
    obtain ⟨j, cc, AA, ys, hj, rfl, rfl, HO, HYI, HYA, HYM, HB⟩ := hrel
    by_cases hlt : j < n
    · obtain ⟨ad, rfl, _, hcell⟩ := row_at (HR.out.below HB.out) hlt
      obtain ⟨x, hx⟩ : ∃ x, x = es[j]?.getD nilE := ⟨_, rfl⟩
      obtain ⟨a0, a1, a2, a3, a4⟩ := hcell x hx
      have hjl : j < es.length := by rw [HL.out]; exact hlt
      have hmem : x ∈ es := by rw [hx, List.getElem?_eq_getElem hjl]; exact List.getElem_mem hjl
      have htk : es.take (j + 1) = es.take j ++ [x] := by rw [hx, List.getElem?_eq_getElem hjl, List.take_succ_eq_append_getElem hjl]; rfl
      have HTK := Lib.hid htk
      have HC := Lib.hid (HE.out x hmem S wr (((HIN.out x hmem).below HB.out).more HB.out.size) (HAT.out x hmem) (HLT.out x hmem))
      clear hx hcell hmem htk hjl
      obtain ⟨k, o, m, s, A1, n1, c1, es1⟩ := x
      have HC2 : Hid (Calls Try.prog 10 #[.agg #[.int .i64 k, .int .i64 o, .int .i64 m, .string (bs s), .slice A1 n1 c1]] wr fun e w' => ∃ y : EL, e = .returned (eVal y) ∧ y.In w' w'.heap.size ∧ y.At (fun b => S b ∨ wr.heap.size ≤ b) ∧ plE y = foldP (plE (.mk k o m s A1 n1 c1 es1)) ∧ Below wr.heap.size wr w') := HC
      clear HC
      simp only [EL.kind, EL.op, EL.num, EL.name, EL.A, EL.n, EL.c] at a0 a1 a2 a3 a4
      go_wp2_with fail
      refine HC2.out.mono ?_
      rintro e w2 ⟨y, rfl, hyI, hyA, hyP, hb2⟩
      have HYI2 : Hid (∀ z ∈ ys ++ [y], z.In w2 w2.heap.size) := Lib.hid (fun z hz => by
        rcases List.mem_append.1 hz with hz | hz
        · exact ((HYI.out z hz).below hb2).more hb2.size
        · simp at hz
          subst hz
          exact hyI)
      have HO2 := Lib.hid (own_below HO.out hb2)
      have HYA2 : Hid (∀ z ∈ ys ++ [y], z.At (fun b => (S b ∨ w.heap.size ≤ b) ∧ (Value.slice AA j cc).ownBlock ≠ some b)) := Lib.hid (fun z hz => by
        rcases List.mem_append.1 hz with hz | hz
        · exact HYA.out z hz
        · simp at hz
          subst hz
          refine hyA.mono fun b hb => ?_
          have hown : ∀ g, (Value.slice AA j cc).ownBlock = some g → w.heap.size ≤ g ∧ g < wr.heap.size := fun g hg => HO.out.lt g hg
          rcases hb with hb | hb
          · exact ⟨.inl hb, fun e => by have := (hown b e).1; have := HSB.out b hb; omega⟩
          · exact ⟨.inr (Nat.le_trans HB.out.size hb), fun e => by have := (hown b e).2; omega⟩)
      have HYP := Lib.hid hyP
      have HB2 : Hid (Below w.heap.size w w2) := Lib.hid (HB.out.trans (hb2.mono HB.out.size))
      clear hyI hyA hyP hb2
      obtain ⟨k2, o2, m2, s2, A2, n2, c2, es2⟩ := y
      unfold eVal eCells
      simp only [EL.kind, EL.op, EL.num, EL.name, EL.A, EL.n, EL.c]
      have hj1 : (j + 1) * 64 ≤ 140737488355328 := by have := HLE.out; omega
      go_wp2_with (first | (at_builtin; refine wpList_appW _ rfl _ _ 29 rfl w.heap.size 31 i0 _ Try.underlying29 HI.out HZ0.out rfl HSZ.out HBY.out (.slice AA j cc) j ys rfl (HO2.out.alloc _) w2.heap.size 1 (.mk k2 o2 m2 s2 A2 n2 c2 es2) rfl (Blk.new w2 31 _) hj1 (by simp; have := HB2.out.size; omega) ?_; intro A' c' w3 hown hg hob) | go_in)
      obtain ⟨W, hW⟩ : ∃ W, W = w2.alloc (.cells #[.int .i64 k2, .int .i64 o2, .int .i64 m2, .string (bs s2), .slice A2 n2 c2] 31) := ⟨_, rfl⟩
      have hg' : W.grownBy w3 (Value.slice AA j cc).ownBlock := by rw [hW]; exact hg
      have hob' : (Value.slice A' (j + 1) c').ownBlock = (Value.slice AA j cc).ownBlock ∨ (Value.slice A' (j + 1) c').ownBlock = some W.heap.size := by rw [hW]; exact hob
      have hBW : Below w2.heap.size w2 W := by rw [hW]; exact (Below.refl _ _).alloc (Nat.le_refl _) _
      have HIW : ∀ z ∈ ys ++ [EL.mk k2 o2 m2 s2 A2 n2 c2 es2], z.In W W.heap.size := fun z hz => ((HYI2.out z hz).below hBW).more hBW.size
      have HO3 := Lib.hid hown
      have HI3 : Hid (∀ z ∈ ys ++ [EL.mk k2 o2 m2 s2 A2 n2 c2 es2], z.In w3 w3.heap.size) := Lib.hid (fun z hz => (HIW z hz).keepS hg'.size (fun p hp hlt => cell_of_heap (hg'.block p.block hlt (fun e => hp.2 e.symm))) (HYA2.out z hz))
      have HA3 : Hid (∀ z ∈ ys ++ [EL.mk k2 o2 m2 s2 A2 n2 c2 es2], z.At (fun b => (S b ∨ w.heap.size ≤ b) ∧ (Value.slice A' (j + 1) c').ownBlock ≠ some b)) := Lib.hid (fun z hz => by
        refine ((HYA2.out z hz).and (HIW z hz).atB).mono fun b hb => ⟨hb.1.1, ?_⟩
        rcases hob' with e | e
        · rw [e]
          exact hb.1.2
        · rw [e]
          exact some_ne (by have := hb.2; omega))
      have HP3 : Hid ((ys ++ [EL.mk k2 o2 m2 s2 A2 n2 c2 es2]).map plE = (es.take (j + 1)).map (fun x => foldP (plE x))) := Lib.hid (by
        rw [HTK.out, List.map_append, List.map_append, HYM.out]
        simp only [List.map_cons, List.map_nil]
        rw [HYP.out])
      have HB3 : Hid (Below w.heap.size w w3) := Lib.hid ((HB2.out.trans (hBW.mono HB2.out.size)).grown hg' (Nat.le_trans HB2.out.size hBW.size) (fun g e => (HO.out.lt g e).1))
      clear hown hg hob hg' hob' hBW HIW hW
      go_wp2_with fail
      go_roundw
      case rel => exact ⟨j + 1, c', A', _, by omega, by go_num, rfl, HO3, HI3, HA3, HP3, HB3⟩
      case measure => simp [intOf]; omega
    · obtain rfl : j = n := by omega
      have HYM2 : Hid (ys.map plE = es.map (fun x => foldP (plE x))) := Lib.hid (by rw [HYM.out, ← HL.out, List.take_length])
      go_wp2_with fail
      go_ret
      exact ⟨_, _, ys, rfl, rowW_of_own HO.out hn63, rowW_block HO.out, HYI.out, fun y hy => (HYA.out y hy).mono fun b hb => hb.1, HYM2.out, HB.out⟩

end

section
open Go.RowKit
set_option linter.unusedVariables false
set_option linter.unusedSimpArgs false

/-- the expression is handed back, its arguments folded -/
theorem expr_out {w V : World} {S : Nat → Prop} {p : PE} {k o m : Int} {s : List UInt8} {A : Option Addr} {n c : Nat} {ys : List EL} (h : FSt w V k o m s A n c ys) (hA : 0 < n → ∀ ad : Addr, A = some ad → (S ad.block ∧ ad.block < w.heap.size) ∨ w.heap.size + 2 ≤ ad.block)
    (hYA : ∀ y ∈ ys, y.At (fun b => (S b ∧ b < w.heap.size) ∨ w.heap.size + 2 ≤ b)) (hm : -9223372036854775808 ≤ m ∧ m ≤ 9223372036854775807) (hs : (s.length : Int) ≤ 9223372036854775807) (hp : p = .mk k o m s (ys.map plE)) (cs : Array Value) :
    ∃ y : EL, Ending.returned (.agg #[.int .i64 k, .int .i64 o, .int .i64 m, .string (bs s), .slice A n c]) = .returned (eVal y) ∧ y.In (V.setRow (w.heap.size + 1) cs) (V.setRow (w.heap.size + 1) cs).heap.size ∧ y.At (fun b => S b ∨ w.heap.size ≤ b) ∧ plE y = p ∧ Below w.heap.size w (V.setRow (w.heap.size + 1) cs) := by
  have hk : ∀ q : Addr, (S q.block ∧ q.block < w.heap.size ∨ w.heap.size + 2 ≤ q.block) → q.block < V.heap.size → (V.setRow (w.heap.size + 1) cs).cell? q = V.cell? q := fun q hq _ => cell_setRow_other _ _ _ _ (by omega)
  have hsz : V.heap.size ≤ (V.setRow (w.heap.size + 1) cs).heap.size := by rw [size_setRow]; exact Nat.le_refl _
  refine ⟨.mk k o m s A n c ys, rfl, EL.In_eq.2 ⟨⟨hm, hs, h.row.keepS (S := fun b => (S b ∧ b < w.heap.size) ∨ w.heap.size + 2 ≤ b) hA hsz hk⟩, fun y hy => (h.yI y hy).keepS (S := fun b => (S b ∧ b < w.heap.size) ∨ w.heap.size + 2 ≤ b) hsz hk (hYA y hy)⟩, EL.At_eq.2 ⟨fun hn ad had => ?_, fun y hy => (hYA y hy).mono fun b hb => ?_⟩, ?_, below_setRow h.blw (Nat.le_succ _) _⟩
  · rcases hA hn ad had with hb | hb
    · exact .inl hb.1
    · exact .inr (by omega)
  · rcases hb with hb | hb
    · exact .inl hb.1
    · exact .inr (by omega)
  · rw [plE_eq, hp]
    rfl

set_option maxRecDepth 100000 in
set_option maxHeartbeats 12800000 in
theorem r18Expr_not (e : EL) (ih : ∀ x ∈ e.args, FoldAt 10 x) (h6 : ¬ (e.kind = 6 ∧ e.n = 2)) : FoldAt 10 e := by
  intro S0 w hin hat0 hlit
  have hat : e.At (fun b => S0 b ∧ b < w.heap.size) := hat0.and hin.atB
  rw [plE_eq] at hlit ⊢
  rw [litP_eq] at hlit
  rw [foldP_eq]
  obtain ⟨hA, hAs⟩ := EL.At_eq.1 hat
  obtain ⟨⟨hnum, hname, hrow⟩, hIs⟩ := EL.In_eq.1 hin
  have HALL := Lib.hid (r18all_of e.args ih (fun b => S0 b ∧ b < w.heap.size) e.A e.n e.c)
  obtain ⟨k, o, m, s, A, n, c, es⟩ := e
  simp only [EL.kind, EL.op, EL.num, EL.name, EL.A, EL.n, EL.c, EL.args] at *
  simp only [PE.kind, PE.op, PE.num, PE.name, PE.args] at hlit ⊢
  show Calls Try.prog _ #[.agg #[.int .i64 k, .int .i64 o, .int .i64 m, .string (bs s), .slice A n c]] w _
  obtain ⟨P, hP⟩ : ∃ P, P = stepF (.mk k o m s ((es.map plE).map foldP)) := ⟨_, rfl⟩
  rw [← hP]
  have HP0 := Lib.hid hP
  clear hP
  have hn : es.length = n := hrow.1
  have hlen : n * 64 ≤ 140737488355328 := by have := hlit.1; rw [List.length_map, hn] at this; exact this
  have hlits : ∀ x ∈ es, litP (plE x) := fun x hx => hlit.2 _ (List.mem_map.2 ⟨x, hx, rfl⟩)
  obtain ⟨W1, hW1⟩ : ∃ W, W = w.alloc (.cells #[.int .i64 k, .int .i64 o, .int .i64 m, .string (bs s), .slice A n c] 31) := ⟨_, rfl⟩
  obtain ⟨W2, hW2⟩ : ∃ W, W = W1.alloc (.cells #[.int .i64 0, .int .i64 0, .int .i64 0, .string ⟨#[]⟩, .slice none 0 0] 31) := ⟨_, rfl⟩
  have hs1 : W1.heap.size = w.heap.size + 1 := by rw [hW1]; simp
  have hs2 : W2.heap.size = w.heap.size + 2 := by rw [hW2]; simp [hs1]
  have HB2 : Hid (Below w.heap.size w W2) := Lib.hid (by rw [hW2, hW1]; exact ((Below.refl _ _).alloc (Nat.le_refl _) _).alloc (by simp) _)
  have HX2 : Hid (Blk W2 w.heap.size 31 #[.int .i64 k, .int .i64 o, .int .i64 m, .string (bs s), .slice A n c]) := Lib.hid (by
    rw [hW2]
    refine Blk.alloc ?_ _
    rw [hW1]
    exact Blk.new _ _ _)
  have HR2 : Hid (Blk W2 (w.heap.size + 1) 31 #[.int .i64 0, .int .i64 0, .int .i64 0, .string ⟨#[]⟩, .slice none 0 0]) := Lib.hid (by rw [hW2]; exact Blk.new_at _ _ _ _ hs1.symm)
  have HS2 := Lib.hid hs2
  have a4 := HX2.out.cell 4
  simp at a4
  have HC := Lib.hid (HALL.out W2 ((hrow.below HB2.out).more HB2.out.size) (fun x hx => ((hIs x hx).below HB2.out).more HB2.out.size) hAs (fun b hb => Nat.lt_of_lt_of_le hb.2 HB2.out.size) hlen hlits)
  have HNM := Lib.hid hnum
  have HNA := Lib.hid hname
  have HN := Lib.hid hn
  have HA := Lib.hid hA
  have HLE := Lib.hid hlen
  clear HALL ih hin hat hat0 hlit hA hAs hnum hname hrow hIs hlits hn
  go_enter Try.func10, Try.ntmps10
  go_wp2_with fail
  rw [← hW1, ← hW2]
  clear hW1 hW2
  go_wp2_with fail
  refine HC.out.mono ?_
  rintro e w3 ⟨A', c', ys, rfl, hry, hryb, hyI, hyA, hyP, hb3⟩
  have HX3 := Lib.hid (HX2.out.below hb3 HX2.out.lt)
  have HR3 := Lib.hid (HR2.out.below hb3 HR2.out.lt)
  have HB3 := Lib.hid (HB2.out.trans (hb3.mono HB2.out.size))
  obtain ⟨W4, hW4⟩ : ∃ W, W = w3.setCell ⟨w.heap.size, 4, none⟩ (.slice A' n c') := ⟨_, rfl⟩
  have hz4 : ∀ p : Addr, ((S0 p.block ∧ p.block < w.heap.size) ∨ w.heap.size + 2 ≤ p.block) → p.block < w3.heap.size → W4.cell? p = w3.cell? p := fun p hp _ => by rw [hW4]; exact cell_of_heap (Below.heap_setCell _ _ _ _ (by show p.block ≠ w.heap.size; omega))
  have hsz4 : W4.heap.size = w3.heap.size := by rw [hW4]; simp [World.setCell]
  have hryb' : 0 < n → ∀ ad : Addr, A' = some ad → (S0 ad.block ∧ ad.block < w.heap.size) ∨ w.heap.size + 2 ≤ ad.block := fun h0 ad had => .inr (by have := hryb h0 ad had; have := HS2.out; omega)
  have hyA' : ∀ y ∈ ys, y.At (fun b => (S0 b ∧ b < w.heap.size) ∨ w.heap.size + 2 ≤ b) := fun y hy => (hyA y hy).mono fun b hb => by
    rcases hb with hb | hb
    · exact .inl hb
    · exact .inr (by have := HS2.out; omega)
  have HST : Hid (FSt w W4 k o m s A' n c' ys) := Lib.hid ⟨by rw [hW4]; exact HX3.out.set_ 4 _, by rw [hW4]; exact HR3.out.far (by show w.heap.size + 1 ≠ w.heap.size; omega) _, hry.keepS (S := fun b => (S0 b ∧ b < w.heap.size) ∨ w.heap.size + 2 ≤ b) hryb' (by omega) hz4, fun y hy => (hyI y hy).keepS (S := fun b => (S0 b ∧ b < w.heap.size) ∨ w.heap.size + 2 ≤ b) (by omega) hz4 (hyA' y hy), by rw [hW4]; exact HB3.out.setCell (p := ⟨w.heap.size, 4, none⟩) (Nat.le_refl _) _⟩
  have HSL : Hid (FSt w (w3.setCell ⟨w.heap.size, 4, none⟩ (.slice A' n c')) k o m s A' n c' ys) := Lib.hid (by rw [← hW4]; exact HST.out)
  have HRB := Lib.hid hryb'
  have HYA := Lib.hid hyA'
  have HYP := Lib.hid hyP
  have hyl : ys.length = n := hry.1
  have HYL := Lib.hid hyl
  have b4 := HX3.out.cell 4
  have f4 := HX3.out.frozen 4
  simp at b4
  have d0 := HST.out.bx.cell 0
  have d1 := HST.out.bx.cell 1
  have d2 := HST.out.bx.cell 2
  have d3 := HST.out.bx.cell 3
  have d4 := HST.out.bx.cell 4
  simp at d0 d1 d2 d3 d4
  rw [hW4] at d0 d1 d2 d3 d4
  clear a4 hry hryb hyI hyA hyP hz4 hsz4 hryb' hyA' hyl
  have HP : Hid (P = stepF (.mk k o m s (ys.map plE))) := Lib.hid (by rw [HP0.out, HYP.out, List.map_map]; rfl)
  by_cases hn1 : n = 1
  · subst hn1
    clear d0 d1 d2 d3 d4
    obtain ⟨x, hx⟩ : ∃ x, x = ys[0]?.getD nilE := ⟨_, rfl⟩
    have hys : ys = [x] := by
      have := HYL.out
      match ys, this with
      | [z], _ => rw [hx]; rfl
    obtain ⟨ad, rfl, _, _⟩ := row_at HST.out.row (j := 0) (by omega)
    obtain ⟨xk, xo, xm, xs, xA, xn, xc, xl⟩ := x
    have HXQ := Lib.hid hx
    have HP1 : Hid (P = if xk = 1 ∧ k = 4 then numP (negV xm) else if xk = 1 ∧ k = 5 then numP (truthV (decide (wrapV xm = 0))) else .mk k o m s (ys.map plE)) := Lib.hid (by
      rw [HP.out, hys]
      unfold stepF
      simp [PE.args, PE.kind, PE.num, plE_eq, EL.kind, EL.num, EL.op, EL.name, EL.args])
    clear hys hx
    have q2 : (((1 : Nat) : Int) != 2) = true := by decide
    have d0 := HST.out.bx.cell 0
    have d1 := HST.out.bx.cell 1
    have d2 := HST.out.bx.cell 2
    have d3 := HST.out.bx.cell 3
    have d4 := HST.out.bx.cell 4
    simp at d0 d1 d2 d3 d4
    obtain ⟨ad0, hd0, _, hc0⟩ := row_at HST.out.row (j := 0) (by omega)
    obtain rfl : ad = ad0 := by injection hd0
    obtain ⟨x0, x1, x2, x3, x4⟩ := hc0 _ HXQ.out
    simp only [Nat.zero_mul, Nat.one_mul, add_zeroF, EL.kind, EL.op, EL.num, EL.name, EL.A, EL.n, EL.c] at x0 x1 x2 x3 x4
    clear hc0
    rw [hW4] at d0 d1 d2 d3 d4 x0 x1 x2 x3 x4
    by_cases hx1 : xk = 1
    · have HX1 := Lib.hid hx1
      clear hx1
      go_wp2_with fail
      refine (r18number_any (EL.mk xk xo xm xs xA xn xc xl) _).mono ?_
      rintro e w5 ⟨he, hb⟩
      rw [show decide ((EL.mk xk xo xm xs xA xn xc xl).kind = 1) = true from decide_eq_true HX1.out] at he
      subst he
      have H5 := Lib.hid (HSL.out.below hb)
      clear hb
      clear d0 d1 d2 d3 d4 x0 x1 x2 x3 x4
      have d0 := H5.out.bx.cell 0
      have d1 := H5.out.bx.cell 1
      have d2 := H5.out.bx.cell 2
      have d3 := H5.out.bx.cell 3
      have d4 := H5.out.bx.cell 4
      simp at d0 d1 d2 d3 d4
      obtain ⟨ad0, hd0, _, hc0⟩ := row_at H5.out.row (j := 0) (by omega)
      obtain rfl : ad = ad0 := by injection hd0
      obtain ⟨x0, x1, x2, x3, x4⟩ := hc0 _ HXQ.out
      simp only [Nat.zero_mul, Nat.one_mul, add_zeroF, EL.kind, EL.op, EL.num, EL.name, EL.A, EL.n, EL.c] at x0 x1 x2 x3 x4
      clear hc0
      by_cases hk4 : k = 4
      · have HPE : Hid (P = numP (negV xm)) := Lib.hid (by rw [HP1.out, if_pos ⟨HX1.out, hk4⟩])
        have q4 : (k == 4) = true := by rw [beq_dec18]; exact decide_eq_true hk4
        clear hk4
        go_wp2_with fail
        refine (r1Neg_any xm _).mono ?_
        rintro e w9 ⟨rfl, rfl⟩
        go_wp2_with fail
        refine (r18num_any (negV xm) _).mono ?_
        rintro e w6 ⟨rfl, hb⟩
        have H6 := Lib.hid (H5.out.below hb)
        clear hb
        clear d0 d1 d2 d3 d4 x0 x1 x2 x3 x4
        go_wp2_with (refine wpList_store_row rfl 31 _ _ rfl (w.heap.size + 1) #[.int .i64 1, .int .i64 0, .int .i64 (negV xm), .string ⟨#[]⟩, .slice none 0 0] rfl rfl _ _ H6.out.rs expr_size rfl (expr_one _ _ _ _ _ _ _) ?_)
        (try simp only [Exit.inBlock, Exit.then]); refine bodyPost_ret (results_cell_row rfl _ _ _ _ _ _ _ rfl (setRow_heap _ _ _ _ _ _ H6.out.rs) Try.underlying31 rfl (by kernel_rfl)) rfl ?_
        exact num_out (by have := wrapV_range (0 - wrapV xm); show _ ≤ wrapV _ ∧ wrapV _ ≤ _; omega) HPE.out (below_setRow H6.out.blw (Nat.le_succ _) _)
      · have q4 : (k == 4) = false := by rw [beq_dec18]; exact decide_eq_false hk4
        go_wp2_with fail
        refine (r18number_any (EL.mk xk xo xm xs xA xn xc xl) _).mono ?_
        rintro e w6 ⟨he, hb⟩
        rw [show decide ((EL.mk xk xo xm xs xA xn xc xl).kind = 1) = true from decide_eq_true HX1.out] at he
        subst he
        have H6 := Lib.hid (H5.out.below hb)
        clear hb
        clear d0 d1 d2 d3 d4 x0 x1 x2 x3 x4
        have d0 := H6.out.bx.cell 0
        have d1 := H6.out.bx.cell 1
        have d2 := H6.out.bx.cell 2
        have d3 := H6.out.bx.cell 3
        have d4 := H6.out.bx.cell 4
        simp at d0 d1 d2 d3 d4
        obtain ⟨ad0, hd0, _, hc0⟩ := row_at H6.out.row (j := 0) (by omega)
        obtain rfl : ad = ad0 := by injection hd0
        obtain ⟨x0, x1, x2, x3, x4⟩ := hc0 _ HXQ.out
        simp only [Nat.zero_mul, Nat.one_mul, add_zeroF, EL.kind, EL.op, EL.num, EL.name, EL.A, EL.n, EL.c] at x0 x1 x2 x3 x4
        clear hc0
        by_cases hk5 : k = 5
        · have HPE : Hid (P = numP (truthV (decide (wrapV xm = 0)))) := Lib.hid (by rw [HP1.out, if_neg (fun h => hk4 h.2), if_pos ⟨HX1.out, hk5⟩])
          have q5 : (k == 5) = true := by rw [beq_dec18]; exact decide_eq_true hk5
          clear hk5
          have qw : (wrapV xm == 0) = decide (wrapV xm = 0) := beq_dec18 _ _
          go_wp2_with fail
          refine (r1Wrap_any xm _).mono ?_
          rintro e w9 ⟨rfl, rfl⟩
          go_wp2_with fail
          refine ((by first | exact r18truth_any (decide (wrapV xm = 0)) _ | (rw [qw]; exact r18truth_any (decide (wrapV xm = 0)) _) : Calls _ _ _ _ _)).mono ?_
          rintro e w9 ⟨rfl, rfl⟩
          go_wp2_with fail
          refine (r18num_any (truthV (decide (wrapV xm = 0))) _).mono ?_
          rintro e w7 ⟨rfl, hb⟩
          have H7 := Lib.hid (H6.out.below hb)
          clear hb
          clear d0 d1 d2 d3 d4 x0 x1 x2 x3 x4
          go_wp2_with (refine wpList_store_row rfl 31 _ _ rfl (w.heap.size + 1) #[.int .i64 1, .int .i64 0, .int .i64 (truthV (decide (wrapV xm = 0))), .string ⟨#[]⟩, .slice none 0 0] rfl rfl _ _ H7.out.rs expr_size rfl (expr_one _ _ _ _ _ _ _) ?_)
          (try simp only [Exit.inBlock, Exit.then]); refine bodyPost_ret (results_cell_row rfl _ _ _ _ _ _ _ rfl (setRow_heap _ _ _ _ _ _ H7.out.rs) Try.underlying31 rfl (by kernel_rfl)) rfl ?_
          exact num_out (by unfold truthV; split <;> omega) HPE.out (below_setRow H7.out.blw (Nat.le_succ _) _)
        · have HPE : Hid (P = .mk k o m s (ys.map plE)) := Lib.hid (by rw [HP1.out, if_neg (fun h => hk4 h.2), if_neg (fun h => hk5 h.2)])
          have q5 : (k == 5) = false := by rw [beq_dec18]; exact decide_eq_false hk5
          have q6 : (k != 6) = decide (k ≠ 6) := by simp [bne, beq_dec18]
          by_cases hk6 : k = 6
          · have q7 : (k != 6) = false := by rw [q6]; exact decide_eq_false (by omega)
            clear hk6 q6
            go_wp2_with (refine wpList_store_row rfl 31 _ _ rfl (w.heap.size + 1) #[.int .i64 k, .int .i64 o, .int .i64 m, .string (bs s), .slice (some ad) 1 c'] rfl rfl _ _ H6.out.rs expr_size rfl (expr_one _ _ _ _ _ _ _) ?_)
            (try simp only [Exit.inBlock, Exit.then]); refine bodyPost_ret (results_cell_row rfl _ _ _ _ _ _ _ rfl (setRow_heap _ _ _ _ _ _ H6.out.rs) Try.underlying31 rfl (by kernel_rfl)) rfl ?_
            exact expr_out H6.out HRB.out HYA.out HNM.out HNA.out HPE.out _
          · have q7 : (k != 6) = true := by rw [q6]; exact decide_eq_true hk6
            go_wp2_with (refine wpList_store_row rfl 31 _ _ rfl (w.heap.size + 1) #[.int .i64 k, .int .i64 o, .int .i64 m, .string (bs s), .slice (some ad) 1 c'] rfl rfl _ _ H6.out.rs expr_size rfl (expr_one _ _ _ _ _ _ _) ?_)
            (try simp only [Exit.inBlock, Exit.then]); refine bodyPost_ret (results_cell_row rfl _ _ _ _ _ _ _ rfl (setRow_heap _ _ _ _ _ _ H6.out.rs) Try.underlying31 rfl (by kernel_rfl)) rfl ?_
            exact expr_out H6.out HRB.out HYA.out HNM.out HNA.out HPE.out _
    · go_wp2_with fail
      refine (r18number_any (EL.mk xk xo xm xs xA xn xc xl) _).mono ?_
      rintro e w5 ⟨he, hb⟩
      rw [show decide ((EL.mk xk xo xm xs xA xn xc xl).kind = 1) = false from decide_eq_false hx1] at he
      subst he
      have H5 := Lib.hid (HSL.out.below hb)
      clear hb
      clear d0 d1 d2 d3 d4 x0 x1 x2 x3 x4
      have d0 := H5.out.bx.cell 0
      have d1 := H5.out.bx.cell 1
      have d2 := H5.out.bx.cell 2
      have d3 := H5.out.bx.cell 3
      have d4 := H5.out.bx.cell 4
      simp at d0 d1 d2 d3 d4
      obtain ⟨ad0, hd0, _, hc0⟩ := row_at H5.out.row (j := 0) (by omega)
      obtain rfl : ad = ad0 := by injection hd0
      obtain ⟨x0, x1, x2, x3, x4⟩ := hc0 _ HXQ.out
      simp only [Nat.zero_mul, Nat.one_mul, add_zeroF, EL.kind, EL.op, EL.num, EL.name, EL.A, EL.n, EL.c] at x0 x1 x2 x3 x4
      clear hc0
      go_wp2_with fail
      refine (r18number_any (EL.mk xk xo xm xs xA xn xc xl) _).mono ?_
      rintro e w6 ⟨he, hb⟩
      rw [show decide ((EL.mk xk xo xm xs xA xn xc xl).kind = 1) = false from decide_eq_false hx1] at he
      subst he
      have H6 := Lib.hid (H5.out.below hb)
      clear hb
      clear d0 d1 d2 d3 d4 x0 x1 x2 x3 x4
      have d0 := H6.out.bx.cell 0
      have d1 := H6.out.bx.cell 1
      have d2 := H6.out.bx.cell 2
      have d3 := H6.out.bx.cell 3
      have d4 := H6.out.bx.cell 4
      simp at d0 d1 d2 d3 d4
      obtain ⟨ad0, hd0, _, hc0⟩ := row_at H6.out.row (j := 0) (by omega)
      obtain rfl : ad = ad0 := by injection hd0
      obtain ⟨x0, x1, x2, x3, x4⟩ := hc0 _ HXQ.out
      simp only [Nat.zero_mul, Nat.one_mul, add_zeroF, EL.kind, EL.op, EL.num, EL.name, EL.A, EL.n, EL.c] at x0 x1 x2 x3 x4
      clear hc0
      have HPE : Hid (P = .mk k o m s (ys.map plE)) := Lib.hid (by rw [HP1.out, if_neg (fun h => hx1 h.1), if_neg (fun h => hx1 h.1)])
      have q6 : (k != 6) = decide (k ≠ 6) := by simp [bne, beq_dec18]
      by_cases hk6 : k = 6
      · have q7 : (k != 6) = false := by rw [q6]; exact decide_eq_false (by omega)
        clear hk6 q6
        go_wp2_with (refine wpList_store_row rfl 31 _ _ rfl (w.heap.size + 1) #[.int .i64 k, .int .i64 o, .int .i64 m, .string (bs s), .slice (some ad) 1 c'] rfl rfl _ _ H6.out.rs expr_size rfl (expr_one _ _ _ _ _ _ _) ?_)
        (try simp only [Exit.inBlock, Exit.then]); refine bodyPost_ret (results_cell_row rfl _ _ _ _ _ _ _ rfl (setRow_heap _ _ _ _ _ _ H6.out.rs) Try.underlying31 rfl (by kernel_rfl)) rfl ?_
        exact expr_out H6.out HRB.out HYA.out HNM.out HNA.out HPE.out _
      · have q7 : (k != 6) = true := by rw [q6]; exact decide_eq_true hk6
        go_wp2_with (refine wpList_store_row rfl 31 _ _ rfl (w.heap.size + 1) #[.int .i64 k, .int .i64 o, .int .i64 m, .string (bs s), .slice (some ad) 1 c'] rfl rfl _ _ H6.out.rs expr_size rfl (expr_one _ _ _ _ _ _ _) ?_)
        (try simp only [Exit.inBlock, Exit.then]); refine bodyPost_ret (results_cell_row rfl _ _ _ _ _ _ _ rfl (setRow_heap _ _ _ _ _ _ H6.out.rs) Try.underlying31 rfl (by kernel_rfl)) rfl ?_
        exact expr_out H6.out HRB.out HYA.out HNM.out HNA.out HPE.out _
  · have q1 : ((n : Int) == 1) = false := by rw [beq_dec18]; exact decide_eq_false (by omega)
    have HPE : Hid (P = .mk k o m s (ys.map plE)) := Lib.hid (by
      rw [HP.out]
      unfold stepF
      simp only [PE.args, PE.kind, List.length_map, HYL.out]
      rw [if_neg (by omega), if_neg (by omega), if_pos (by omega)])
    have q6 : (k != 6) = decide (k ≠ 6) := by simp [bne, beq_dec18]
    by_cases hk6 : k = 6
    · have hn2 : n ≠ 2 := fun e => h6 ⟨hk6, e⟩
      have q2 : ((n : Int) != 2) = true := by rw [bne, beq_dec18, decide_eq_false (by omega)]; rfl
      have q7 : (k != 6) = false := by rw [q6]; exact decide_eq_false (by omega)
      clear hk6 q6 h6
      go_wp2_with (refine wpList_store_row rfl 31 _ _ rfl (w.heap.size + 1) #[.int .i64 k, .int .i64 o, .int .i64 m, .string (bs s), .slice A' n c'] rfl rfl _ _ HSL.out.rs expr_size rfl (expr_one _ _ _ _ _ _ _) ?_)
      (try simp only [Exit.inBlock, Exit.then]); refine bodyPost_ret (results_cell_row rfl _ _ _ _ _ _ _ rfl (setRow_heap _ _ _ _ _ _ HSL.out.rs) Try.underlying31 rfl (by kernel_rfl)) rfl ?_
      exact expr_out HSL.out HRB.out HYA.out HNM.out HNA.out HPE.out _
    · have q7 : (k != 6) = true := by rw [q6]; exact decide_eq_true hk6
      go_wp2_with (refine wpList_store_row rfl 31 _ _ rfl (w.heap.size + 1) #[.int .i64 k, .int .i64 o, .int .i64 m, .string (bs s), .slice A' n c'] rfl rfl _ _ HSL.out.rs expr_size rfl (expr_one _ _ _ _ _ _ _) ?_)
      (try simp only [Exit.inBlock, Exit.then]); refine bodyPost_ret (results_cell_row rfl _ _ _ _ _ _ _ rfl (setRow_heap _ _ _ _ _ _ HSL.out.rs) Try.underlying31 rfl (by kernel_rfl)) rfl ?_
      exact expr_out HSL.out HRB.out HYA.out HNM.out HNA.out HPE.out _

end

section
open Go.RowKit
set_option linter.unusedVariables false
set_option linter.unusedSimpArgs false

theorem below_dnF (w : World) (m : Nat) : Below w.heap.size w (w.drewN m) := ⟨rfl, rfl, rfl, Nat.le_refl _, fun _ _ => rfl⟩

theorem add_fiveF (a : Addr) : a.add 5 = { block := a.block, off := a.off + 5 } := by unfold Addr.add; rw [if_neg (by decide)]

theorem binV_range (o a b : Int) (ha : -32768 ≤ a ∧ a ≤ 32767) : -9223372036854775808 ≤ (binV o a b).1 ∧ (binV o a b).1 ≤ 9223372036854775807 := by
  have hw := wrapV_range a
  have hb := wrapV_range b
  unfold binV addV subV mulV divV modV truthV
  have h1 := wrapV_range (wrapV a + wrapV b)
  have h2 := wrapV_range (wrapV a - wrapV b)
  have h3 := wrapV_range (wrapV a * wrapV b)
  have h4 := wrapV_range ((wrapV a).tdiv (wrapV b))
  have hq := tdiv_bound (wrapV a) (wrapV b) hw.1 hw.2
  have hm : -1073741824 ≤ (wrapV a).tdiv (wrapV b) * wrapV b ∧ (wrapV a).tdiv (wrapV b) * wrapV b ≤ 1073741824 := by
    generalize (wrapV a).tdiv (wrapV b) = q at hq
    generalize wrapV b = y at hb
    obtain ⟨a1, a2⟩ := hq
    obtain ⟨b1, b2⟩ := hb
    have h1 : 0 ≤ (32768 - q) * (32768 + y) := Int.mul_nonneg (by omega) (by omega)
    have h2 : 0 ≤ (32768 + q) * (32768 - y) := Int.mul_nonneg (by omega) (by omega)
    have h3 : 0 ≤ (32768 + q) * (32768 + y) := Int.mul_nonneg (by omega) (by omega)
    have h4 : 0 ≤ (32768 - q) * (32768 - y) := Int.mul_nonneg (by omega) (by omega)
    rw [Int.sub_mul, Int.mul_add, Int.mul_add] at h1
    rw [Int.add_mul, Int.mul_sub, Int.mul_sub] at h2
    rw [Int.add_mul, Int.mul_add, Int.mul_add] at h3
    rw [Int.sub_mul, Int.mul_sub, Int.mul_sub] at h4
    omega
  repeat' split
  all_goals (try dsimp only)
  all_goals omega

set_option maxRecDepth 100000 in
set_option maxHeartbeats 12800000 in
theorem r18Expr_is (e : EL) (ih : ∀ x ∈ e.args, FoldAt 10 x) (h6 : e.kind = 6 ∧ e.n = 2) : FoldAt 10 e := by
  intro S0 w hin hat0 hlit
  have hat : e.At (fun b => S0 b ∧ b < w.heap.size) := hat0.and hin.atB
  rw [plE_eq] at hlit ⊢
  rw [litP_eq] at hlit
  rw [foldP_eq]
  obtain ⟨hA, hAs⟩ := EL.At_eq.1 hat
  obtain ⟨⟨hnum, hname, hrow⟩, hIs⟩ := EL.In_eq.1 hin
  have HALL := Lib.hid (r18all_of e.args ih (fun b => S0 b ∧ b < w.heap.size) e.A e.n e.c)
  obtain ⟨k, o, m, s, A, n, c, es⟩ := e
  simp only [EL.kind, EL.op, EL.num, EL.name, EL.A, EL.n, EL.c, EL.args] at *
  simp only [PE.kind, PE.op, PE.num, PE.name, PE.args] at hlit ⊢
  show Calls Try.prog _ #[.agg #[.int .i64 k, .int .i64 o, .int .i64 m, .string (bs s), .slice A n c]] w _
  obtain ⟨P, hP⟩ : ∃ P, P = stepF (.mk k o m s ((es.map plE).map foldP)) := ⟨_, rfl⟩
  rw [← hP]
  have HP0 := Lib.hid hP
  clear hP
  have hn : es.length = n := hrow.1
  have hlen : n * 64 ≤ 140737488355328 := by have := hlit.1; rw [List.length_map, hn] at this; exact this
  have hlits : ∀ x ∈ es, litP (plE x) := fun x hx => hlit.2 _ (List.mem_map.2 ⟨x, hx, rfl⟩)
  have H6K := Lib.hid h6
  clear h6
  obtain ⟨W1, hW1⟩ : ∃ W, W = w.alloc (.cells #[.int .i64 k, .int .i64 o, .int .i64 m, .string (bs s), .slice A n c] 31) := ⟨_, rfl⟩
  obtain ⟨W2, hW2⟩ : ∃ W, W = W1.alloc (.cells #[.int .i64 0, .int .i64 0, .int .i64 0, .string ⟨#[]⟩, .slice none 0 0] 31) := ⟨_, rfl⟩
  have hs1 : W1.heap.size = w.heap.size + 1 := by rw [hW1]; simp
  have hs2 : W2.heap.size = w.heap.size + 2 := by rw [hW2]; simp [hs1]
  have HB2 : Hid (Below w.heap.size w W2) := Lib.hid (by rw [hW2, hW1]; exact ((Below.refl _ _).alloc (Nat.le_refl _) _).alloc (by simp) _)
  have HX2 : Hid (Blk W2 w.heap.size 31 #[.int .i64 k, .int .i64 o, .int .i64 m, .string (bs s), .slice A n c]) := Lib.hid (by
    rw [hW2]
    refine Blk.alloc ?_ _
    rw [hW1]
    exact Blk.new _ _ _)
  have HR2 : Hid (Blk W2 (w.heap.size + 1) 31 #[.int .i64 0, .int .i64 0, .int .i64 0, .string ⟨#[]⟩, .slice none 0 0]) := Lib.hid (by rw [hW2]; exact Blk.new_at _ _ _ _ hs1.symm)
  have HS2 := Lib.hid hs2
  have a4 := HX2.out.cell 4
  simp at a4
  have HC := Lib.hid (HALL.out W2 ((hrow.below HB2.out).more HB2.out.size) (fun x hx => ((hIs x hx).below HB2.out).more HB2.out.size) hAs (fun b hb => Nat.lt_of_lt_of_le hb.2 HB2.out.size) hlen hlits)
  have HNM := Lib.hid hnum
  have HNA := Lib.hid hname
  have HN := Lib.hid hn
  have HA := Lib.hid hA
  have HLE := Lib.hid hlen
  clear HALL ih hin hat hat0 hlit hA hAs hnum hname hrow hIs hlits hn
  go_enter Try.func10, Try.ntmps10
  go_wp2_with fail
  rw [← hW1, ← hW2]
  clear hW1 hW2
  go_wp2_with fail
  refine HC.out.mono ?_
  rintro e w3 ⟨A', c', ys, rfl, hry, hryb, hyI, hyA, hyP, hb3⟩
  have HX3 := Lib.hid (HX2.out.below hb3 HX2.out.lt)
  have HR3 := Lib.hid (HR2.out.below hb3 HR2.out.lt)
  have HB3 := Lib.hid (HB2.out.trans (hb3.mono HB2.out.size))
  obtain ⟨W4, hW4⟩ : ∃ W, W = w3.setCell ⟨w.heap.size, 4, none⟩ (.slice A' n c') := ⟨_, rfl⟩
  have hz4 : ∀ p : Addr, ((S0 p.block ∧ p.block < w.heap.size) ∨ w.heap.size + 2 ≤ p.block) → p.block < w3.heap.size → W4.cell? p = w3.cell? p := fun p hp _ => by rw [hW4]; exact cell_of_heap (Below.heap_setCell _ _ _ _ (by show p.block ≠ w.heap.size; omega))
  have hsz4 : W4.heap.size = w3.heap.size := by rw [hW4]; simp [World.setCell]
  have hryb' : 0 < n → ∀ ad : Addr, A' = some ad → (S0 ad.block ∧ ad.block < w.heap.size) ∨ w.heap.size + 2 ≤ ad.block := fun h0 ad had => .inr (by have := hryb h0 ad had; have := HS2.out; omega)
  have hyA' : ∀ y ∈ ys, y.At (fun b => (S0 b ∧ b < w.heap.size) ∨ w.heap.size + 2 ≤ b) := fun y hy => (hyA y hy).mono fun b hb => by
    rcases hb with hb | hb
    · exact .inl hb
    · exact .inr (by have := HS2.out; omega)
  have HST : Hid (FSt w W4 k o m s A' n c' ys) := Lib.hid ⟨by rw [hW4]; exact HX3.out.set_ 4 _, by rw [hW4]; exact HR3.out.far (by show w.heap.size + 1 ≠ w.heap.size; omega) _, hry.keepS (S := fun b => (S0 b ∧ b < w.heap.size) ∨ w.heap.size + 2 ≤ b) hryb' (by omega) hz4, fun y hy => (hyI y hy).keepS (S := fun b => (S0 b ∧ b < w.heap.size) ∨ w.heap.size + 2 ≤ b) (by omega) hz4 (hyA' y hy), by rw [hW4]; exact HB3.out.setCell (p := ⟨w.heap.size, 4, none⟩) (Nat.le_refl _) _⟩
  have HSL : Hid (FSt w (w3.setCell ⟨w.heap.size, 4, none⟩ (.slice A' n c')) k o m s A' n c' ys) := Lib.hid (by rw [← hW4]; exact HST.out)
  have HRB := Lib.hid hryb'
  have HYA := Lib.hid hyA'
  have HYP := Lib.hid hyP
  have hyl : ys.length = n := hry.1
  have HYL := Lib.hid hyl
  have b4 := HX3.out.cell 4
  have f4 := HX3.out.frozen 4
  simp at b4
  have d0 := HST.out.bx.cell 0
  have d1 := HST.out.bx.cell 1
  have d2 := HST.out.bx.cell 2
  have d3 := HST.out.bx.cell 3
  have d4 := HST.out.bx.cell 4
  simp at d0 d1 d2 d3 d4
  rw [hW4] at d0 d1 d2 d3 d4
  clear a4 hry hryb hyI hyA hyP hz4 hsz4 hryb' hyA' hyl
  have HP : Hid (P = stepF (.mk k o m s (ys.map plE))) := Lib.hid (by rw [HP0.out, HYP.out, List.map_map]; rfl)
  obtain ⟨hk6, hn2⟩ := H6K.out
  subst hn2
  clear d0 d1 d2 d3 d4
  obtain ⟨x, hx⟩ : ∃ x, x = ys[0]?.getD nilE := ⟨_, rfl⟩
  obtain ⟨y, hy⟩ : ∃ y, y = ys[1]?.getD nilE := ⟨_, rfl⟩
  have hys : ys = [x, y] := by
    have := HYL.out
    match ys, this with
    | [z, u], _ => rw [hx, hy]; rfl
  obtain ⟨ad, rfl, _, _⟩ := row_at HST.out.row (j := 0) (by omega)
  obtain ⟨xk, xo, xm, xs, xA, xn, xc, xl⟩ := x
  obtain ⟨yk, yo, ym, ys9, yA, yn, yc, yl⟩ := y
  have HXQ := Lib.hid hx
  have HYQ := Lib.hid hy
  obtain ⟨a, ha⟩ : ∃ a, a = wrapV xm := ⟨_, rfl⟩
  have HP2 : Hid (P = if xk ≠ 1 then .mk k o m s (ys.map plE) else if o = 2 ∧ a = 0 then numP 0 else if o = 1 ∧ a ≠ 0 then numP 1 else if yk ≠ 1 then .mk k o m s (ys.map plE) else if (binV o a ym).2 = true then numP (binV o a ym).1 else .mk k o m s (ys.map plE)) := Lib.hid (by
    rw [HP.out, hys, ha]
    unfold stepF
    simp [PE.args, PE.kind, PE.num, PE.op, plE_eq, EL.kind, EL.num, EL.op, EL.name, EL.args, hk6])
  have HWA := Lib.hid ha
  have q1 : (((2 : Nat) : Int) == 1) = false := by decide
  have q2 : (((2 : Nat) : Int) != 2) = false := by decide
  have q7 : (k != 6) = false := by simp [hk6]
  clear hys hx hy ha hk6
  have d0 := HST.out.bx.cell 0
  have d1 := HST.out.bx.cell 1
  have d2 := HST.out.bx.cell 2
  have d3 := HST.out.bx.cell 3
  have d4 := HST.out.bx.cell 4
  simp at d0 d1 d2 d3 d4
  obtain ⟨ad0, hd0, _, hc0⟩ := row_at HST.out.row (j := 0) (by omega)
  obtain rfl : ad = ad0 := by injection hd0
  obtain ⟨x0, x1, x2, x3, x4⟩ := hc0 _ HXQ.out
  simp only [Nat.zero_mul, Nat.one_mul, add_zeroF, EL.kind, EL.op, EL.num, EL.name, EL.A, EL.n, EL.c] at x0 x1 x2 x3 x4
  clear hc0
  obtain ⟨ad1, hd1, _, hc1⟩ := row_at HST.out.row (j := 1) (by omega)
  obtain rfl : ad = ad1 := by injection hd1
  obtain ⟨y0, y1, y2, y3, y4⟩ := hc1 _ HYQ.out
  simp only [Nat.zero_mul, Nat.one_mul, add_zeroF, EL.kind, EL.op, EL.num, EL.name, EL.A, EL.n, EL.c] at y0 y1 y2 y3 y4
  clear hc1
  have y5 := y0
  rw [add_fiveF] at y5 y1 y2 y3 y4
  simp only [] at y1 y2 y3 y4
  rw [hW4] at d0 d1 d2 d3 d4 x0 x1 x2 x3 x4 y0 y1 y2 y3 y4 y5
  by_cases hx1 : xk = 1
  · have HX1 := Lib.hid hx1
    clear hx1
    go_wp2_with fail
    refine (r18number_any (EL.mk xk xo xm xs xA xn xc xl) _).mono ?_
    rintro e w5 ⟨he, hb⟩
    rw [show decide ((EL.mk xk xo xm xs xA xn xc xl).kind = 1) = true from decide_eq_true HX1.out] at he
    subst he
    have H5 := Lib.hid (HSL.out.below hb)
    clear hb
    clear d0 d1 d2 d3 d4 x0 x1 x2 x3 x4 y0 y1 y2 y3 y4 y5
    have d0 := H5.out.bx.cell 0
    have d1 := H5.out.bx.cell 1
    have d2 := H5.out.bx.cell 2
    have d3 := H5.out.bx.cell 3
    have d4 := H5.out.bx.cell 4
    simp at d0 d1 d2 d3 d4
    obtain ⟨ad0, hd0, _, hc0⟩ := row_at H5.out.row (j := 0) (by omega)
    obtain rfl : ad = ad0 := by injection hd0
    obtain ⟨x0, x1, x2, x3, x4⟩ := hc0 _ HXQ.out
    simp only [Nat.zero_mul, Nat.one_mul, add_zeroF, EL.kind, EL.op, EL.num, EL.name, EL.A, EL.n, EL.c] at x0 x1 x2 x3 x4
    clear hc0
    obtain ⟨ad1, hd1, _, hc1⟩ := row_at H5.out.row (j := 1) (by omega)
    obtain rfl : ad = ad1 := by injection hd1
    obtain ⟨y0, y1, y2, y3, y4⟩ := hc1 _ HYQ.out
    simp only [Nat.zero_mul, Nat.one_mul, add_zeroF, EL.kind, EL.op, EL.num, EL.name, EL.A, EL.n, EL.c] at y0 y1 y2 y3 y4
    clear hc1
    have y5 := y0
    rw [add_fiveF] at y5 y1 y2 y3 y4
    simp only [] at y1 y2 y3 y4
    go_wp2_with fail
    refine (r1Wrap_any xm _).mono ?_
    rintro e w9 ⟨he, hwe⟩
    rw [← HWA.out] at he
    subst he
    subst hwe
    by_cases ho2 : o = 2
    · have p2 : (o == 2) = true := by simp [ho2]
      have p1 : (o == 1) = false := by simp [ho2]
      by_cases ha0 : a = 0
      · have r0 : (a == 0) = true := by simp [ha0]
        have HPE : Hid (P = numP 0) := Lib.hid (by rw [HP2.out, if_neg (fun h => h HX1.out), if_pos ⟨ho2, ha0⟩])
        clear ho2 ha0
        go_wp2_with fail
        refine (r18num_any (0) _).mono ?_
        rintro e w6 ⟨rfl, hb⟩
        have H6 := Lib.hid (H5.out.below hb)
        clear hb
        clear d0 d1 d2 d3 d4 x0 x1 x2 x3 x4 y0 y1 y2 y3 y4 y5
        go_wp2_with (refine wpList_store_row rfl 31 _ _ rfl (w.heap.size + 1) #[.int .i64 1, .int .i64 0, .int .i64 (0), .string ⟨#[]⟩, .slice none 0 0] rfl rfl _ _ H6.out.rs expr_size rfl (expr_one _ _ _ _ _ _ _) ?_)
        (try simp only [Exit.inBlock, Exit.then]); refine bodyPost_ret (results_cell_row rfl _ _ _ _ _ _ _ rfl (setRow_heap _ _ _ _ _ _ H6.out.rs) Try.underlying31 rfl (by kernel_rfl)) rfl ?_
        exact num_out (by omega) HPE.out (below_setRow H6.out.blw (Nat.le_succ _) _)
      · have r0 : (a == 0) = false := by simp [ha0]
        have hn1 : ¬ (o = 2 ∧ a = 0) := fun h => ha0 h.2
        have hn2 : ¬ (o = 1 ∧ a ≠ 0) := fun h => by have := h.1; omega
        have HN1 := Lib.hid hn1
        have HN2 := Lib.hid hn2
        clear ho2 ha0 hn1 hn2
        by_cases hy1 : yk = 1
        · have HY1 := Lib.hid hy1
          clear hy1
          go_wp2_with fail
          refine (r18number_any (EL.mk yk yo ym ys9 yA yn yc yl) _).mono ?_
          rintro e w8 ⟨he, hb⟩
          rw [show decide ((EL.mk yk yo ym ys9 yA yn yc yl).kind = 1) = true from decide_eq_true HY1.out] at he
          subst he
          have H8 := Lib.hid (H5.out.below hb)
          clear hb
          clear d0 d1 d2 d3 d4 x0 x1 x2 x3 x4 y0 y1 y2 y3 y4 y5
          have d0 := H8.out.bx.cell 0
          have d1 := H8.out.bx.cell 1
          have d2 := H8.out.bx.cell 2
          have d3 := H8.out.bx.cell 3
          have d4 := H8.out.bx.cell 4
          simp at d0 d1 d2 d3 d4
          obtain ⟨ad0, hd0, _, hc0⟩ := row_at H8.out.row (j := 0) (by omega)
          obtain rfl : ad = ad0 := by injection hd0
          obtain ⟨x0, x1, x2, x3, x4⟩ := hc0 _ HXQ.out
          simp only [Nat.zero_mul, Nat.one_mul, add_zeroF, EL.kind, EL.op, EL.num, EL.name, EL.A, EL.n, EL.c] at x0 x1 x2 x3 x4
          clear hc0
          obtain ⟨ad1, hd1, _, hc1⟩ := row_at H8.out.row (j := 1) (by omega)
          obtain rfl : ad = ad1 := by injection hd1
          obtain ⟨y0, y1, y2, y3, y4⟩ := hc1 _ HYQ.out
          simp only [Nat.zero_mul, Nat.one_mul, add_zeroF, EL.kind, EL.op, EL.num, EL.name, EL.A, EL.n, EL.c] at y0 y1 y2 y3 y4
          clear hc1
          have y5 := y0
          rw [add_fiveF] at y5 y1 y2 y3 y4
          simp only [] at y1 y2 y3 y4
          obtain ⟨⟨bv, bq⟩, hbq⟩ : ∃ p, p = binV o a ym := ⟨_, rfl⟩
          have HBQ := Lib.hid hbq
          have hbin : ∀ v : World, Calls Try.prog 35 #[.int .i64 o, .int .i64 a, .int .i64 ym] v fun e w' => e = .returned (.tuple #[.int .i64 bv, .bool bq]) ∧ w' = v := fun v => by
            have := r18bin_any o a ym v
            rw [← hbq] at this
            exact this
          have HBR : Hid (-9223372036854775808 ≤ bv ∧ bv ≤ 9223372036854775807) := Lib.hid (by have := binV_range o a ym (by rw [HWA.out]; exact wrapV_range xm); rw [← hbq] at this; exact this)
          clear hbq
          go_wp2_with fail
          go_quiet ((go_at_call 35; exact Calls.quiet_of_same (hbin _)))
          obtain ⟨V, hV⟩ : ∃ V0, V0 = w8.drewN nq := ⟨_, rfl⟩
          have H9 : Hid (FSt w V k o m s (some ad) 2 c' ys) := Lib.hid (by rw [hV]; exact H8.out.below (below_dnF w8 _))
          rw [← hV]
          clear hV
          clear d0 d1 d2 d3 d4 x0 x1 x2 x3 x4 y0 y1 y2 y3 y4 y5
          have d0 := H9.out.bx.cell 0
          have d1 := H9.out.bx.cell 1
          have d2 := H9.out.bx.cell 2
          have d3 := H9.out.bx.cell 3
          have d4 := H9.out.bx.cell 4
          simp at d0 d1 d2 d3 d4
          by_cases hbq1 : bq = true
          · have HPE : Hid (P = numP bv) := Lib.hid (by rw [HP2.out, if_neg (fun h => h HX1.out), if_neg HN1.out, if_neg HN2.out, if_neg (fun h => h HY1.out), ← HBQ.out, if_pos hbq1])
            subst hbq1
            go_wp2_with fail
            refine (r18num_any (bv) _).mono ?_
            rintro e w6 ⟨rfl, hb⟩
            have H6 := Lib.hid (H9.out.below hb)
            clear hb
            clear d0 d1 d2 d3 d4
            go_wp2_with (refine wpList_store_row rfl 31 _ _ rfl (w.heap.size + 1) #[.int .i64 1, .int .i64 0, .int .i64 (bv), .string ⟨#[]⟩, .slice none 0 0] rfl rfl _ _ H6.out.rs expr_size rfl (expr_one _ _ _ _ _ _ _) ?_)
            (try simp only [Exit.inBlock, Exit.then]); refine bodyPost_ret (results_cell_row rfl _ _ _ _ _ _ _ rfl (setRow_heap _ _ _ _ _ _ H6.out.rs) Try.underlying31 rfl (by kernel_rfl)) rfl ?_
            exact num_out HBR.out HPE.out (below_setRow H6.out.blw (Nat.le_succ _) _)
          · have HPE : Hid (P = .mk k o m s (ys.map plE)) := Lib.hid (by rw [HP2.out, if_neg (fun h => h HX1.out), if_neg HN1.out, if_neg HN2.out, if_neg (fun h => h HY1.out), ← HBQ.out, if_neg hbq1])
            obtain rfl : bq = false := by cases bq <;> simp at hbq1 ⊢
            go_wp2_with (refine wpList_store_row rfl 31 _ _ rfl (w.heap.size + 1) #[.int .i64 k, .int .i64 o, .int .i64 m, .string (bs s), .slice (some ad) 2 c'] rfl rfl _ _ H9.out.rs expr_size rfl (expr_one _ _ _ _ _ _ _) ?_)
            (try simp only [Exit.inBlock, Exit.then]); refine bodyPost_ret (results_cell_row rfl _ _ _ _ _ _ _ rfl (setRow_heap _ _ _ _ _ _ H9.out.rs) Try.underlying31 rfl (by kernel_rfl)) rfl ?_
            exact expr_out H9.out HRB.out HYA.out HNM.out HNA.out HPE.out _
        · go_wp2_with fail
          refine (r18number_any (EL.mk yk yo ym ys9 yA yn yc yl) _).mono ?_
          rintro e w8 ⟨he, hb⟩
          rw [show decide ((EL.mk yk yo ym ys9 yA yn yc yl).kind = 1) = false from decide_eq_false hy1] at he
          subst he
          have H8 := Lib.hid (H5.out.below hb)
          clear hb
          clear d0 d1 d2 d3 d4 x0 x1 x2 x3 x4 y0 y1 y2 y3 y4 y5
          have d0 := H8.out.bx.cell 0
          have d1 := H8.out.bx.cell 1
          have d2 := H8.out.bx.cell 2
          have d3 := H8.out.bx.cell 3
          have d4 := H8.out.bx.cell 4
          simp at d0 d1 d2 d3 d4
          obtain ⟨ad0, hd0, _, hc0⟩ := row_at H8.out.row (j := 0) (by omega)
          obtain rfl : ad = ad0 := by injection hd0
          obtain ⟨x0, x1, x2, x3, x4⟩ := hc0 _ HXQ.out
          simp only [Nat.zero_mul, Nat.one_mul, add_zeroF, EL.kind, EL.op, EL.num, EL.name, EL.A, EL.n, EL.c] at x0 x1 x2 x3 x4
          clear hc0
          obtain ⟨ad1, hd1, _, hc1⟩ := row_at H8.out.row (j := 1) (by omega)
          obtain rfl : ad = ad1 := by injection hd1
          obtain ⟨y0, y1, y2, y3, y4⟩ := hc1 _ HYQ.out
          simp only [Nat.zero_mul, Nat.one_mul, add_zeroF, EL.kind, EL.op, EL.num, EL.name, EL.A, EL.n, EL.c] at y0 y1 y2 y3 y4
          clear hc1
          have y5 := y0
          rw [add_fiveF] at y5 y1 y2 y3 y4
          simp only [] at y1 y2 y3 y4
          have HPE : Hid (P = .mk k o m s (ys.map plE)) := Lib.hid (by rw [HP2.out, if_neg (fun h => h HX1.out), if_neg HN1.out, if_neg HN2.out, if_pos hy1])
          go_wp2_with (refine wpList_store_row rfl 31 _ _ rfl (w.heap.size + 1) #[.int .i64 k, .int .i64 o, .int .i64 m, .string (bs s), .slice (some ad) 2 c'] rfl rfl _ _ H8.out.rs expr_size rfl (expr_one _ _ _ _ _ _ _) ?_)
          (try simp only [Exit.inBlock, Exit.then]); refine bodyPost_ret (results_cell_row rfl _ _ _ _ _ _ _ rfl (setRow_heap _ _ _ _ _ _ H8.out.rs) Try.underlying31 rfl (by kernel_rfl)) rfl ?_
          exact expr_out H8.out HRB.out HYA.out HNM.out HNA.out HPE.out _
    · have p2 : (o == 2) = false := by simp [ho2]
      have hn1 : ¬ (o = 2 ∧ a = 0) := fun h => ho2 h.1
      have HN1 := Lib.hid hn1
      clear hn1
      by_cases ho1 : o = 1
      · have p1 : (o == 1) = true := by simp [ho1]
        by_cases ha0 : a = 0
        · have r0 : (a != 0) = false := by simp [ha0]
          have hn2 : ¬ (o = 1 ∧ a ≠ 0) := fun h => h.2 ha0
          have HN2 := Lib.hid hn2
          clear ho2 ho1 ha0 hn2
          by_cases hy1 : yk = 1
          · have HY1 := Lib.hid hy1
            clear hy1
            go_wp2_with fail
            refine (r18number_any (EL.mk yk yo ym ys9 yA yn yc yl) _).mono ?_
            rintro e w8 ⟨he, hb⟩
            rw [show decide ((EL.mk yk yo ym ys9 yA yn yc yl).kind = 1) = true from decide_eq_true HY1.out] at he
            subst he
            have H8 := Lib.hid (H5.out.below hb)
            clear hb
            clear d0 d1 d2 d3 d4 x0 x1 x2 x3 x4 y0 y1 y2 y3 y4 y5
            have d0 := H8.out.bx.cell 0
            have d1 := H8.out.bx.cell 1
            have d2 := H8.out.bx.cell 2
            have d3 := H8.out.bx.cell 3
            have d4 := H8.out.bx.cell 4
            simp at d0 d1 d2 d3 d4
            obtain ⟨ad0, hd0, _, hc0⟩ := row_at H8.out.row (j := 0) (by omega)
            obtain rfl : ad = ad0 := by injection hd0
            obtain ⟨x0, x1, x2, x3, x4⟩ := hc0 _ HXQ.out
            simp only [Nat.zero_mul, Nat.one_mul, add_zeroF, EL.kind, EL.op, EL.num, EL.name, EL.A, EL.n, EL.c] at x0 x1 x2 x3 x4
            clear hc0
            obtain ⟨ad1, hd1, _, hc1⟩ := row_at H8.out.row (j := 1) (by omega)
            obtain rfl : ad = ad1 := by injection hd1
            obtain ⟨y0, y1, y2, y3, y4⟩ := hc1 _ HYQ.out
            simp only [Nat.zero_mul, Nat.one_mul, add_zeroF, EL.kind, EL.op, EL.num, EL.name, EL.A, EL.n, EL.c] at y0 y1 y2 y3 y4
            clear hc1
            have y5 := y0
            rw [add_fiveF] at y5 y1 y2 y3 y4
            simp only [] at y1 y2 y3 y4
            obtain ⟨⟨bv, bq⟩, hbq⟩ : ∃ p, p = binV o a ym := ⟨_, rfl⟩
            have HBQ := Lib.hid hbq
            have hbin : ∀ v : World, Calls Try.prog 35 #[.int .i64 o, .int .i64 a, .int .i64 ym] v fun e w' => e = .returned (.tuple #[.int .i64 bv, .bool bq]) ∧ w' = v := fun v => by
              have := r18bin_any o a ym v
              rw [← hbq] at this
              exact this
            have HBR : Hid (-9223372036854775808 ≤ bv ∧ bv ≤ 9223372036854775807) := Lib.hid (by have := binV_range o a ym (by rw [HWA.out]; exact wrapV_range xm); rw [← hbq] at this; exact this)
            clear hbq
            go_wp2_with fail
            go_quiet ((go_at_call 35; exact Calls.quiet_of_same (hbin _)))
            obtain ⟨V, hV⟩ : ∃ V0, V0 = w8.drewN nq := ⟨_, rfl⟩
            have H9 : Hid (FSt w V k o m s (some ad) 2 c' ys) := Lib.hid (by rw [hV]; exact H8.out.below (below_dnF w8 _))
            rw [← hV]
            clear hV
            clear d0 d1 d2 d3 d4 x0 x1 x2 x3 x4 y0 y1 y2 y3 y4 y5
            have d0 := H9.out.bx.cell 0
            have d1 := H9.out.bx.cell 1
            have d2 := H9.out.bx.cell 2
            have d3 := H9.out.bx.cell 3
            have d4 := H9.out.bx.cell 4
            simp at d0 d1 d2 d3 d4
            by_cases hbq1 : bq = true
            · have HPE : Hid (P = numP bv) := Lib.hid (by rw [HP2.out, if_neg (fun h => h HX1.out), if_neg HN1.out, if_neg HN2.out, if_neg (fun h => h HY1.out), ← HBQ.out, if_pos hbq1])
              subst hbq1
              go_wp2_with fail
              refine (r18num_any (bv) _).mono ?_
              rintro e w6 ⟨rfl, hb⟩
              have H6 := Lib.hid (H9.out.below hb)
              clear hb
              clear d0 d1 d2 d3 d4
              go_wp2_with (refine wpList_store_row rfl 31 _ _ rfl (w.heap.size + 1) #[.int .i64 1, .int .i64 0, .int .i64 (bv), .string ⟨#[]⟩, .slice none 0 0] rfl rfl _ _ H6.out.rs expr_size rfl (expr_one _ _ _ _ _ _ _) ?_)
              (try simp only [Exit.inBlock, Exit.then]); refine bodyPost_ret (results_cell_row rfl _ _ _ _ _ _ _ rfl (setRow_heap _ _ _ _ _ _ H6.out.rs) Try.underlying31 rfl (by kernel_rfl)) rfl ?_
              exact num_out HBR.out HPE.out (below_setRow H6.out.blw (Nat.le_succ _) _)
            · have HPE : Hid (P = .mk k o m s (ys.map plE)) := Lib.hid (by rw [HP2.out, if_neg (fun h => h HX1.out), if_neg HN1.out, if_neg HN2.out, if_neg (fun h => h HY1.out), ← HBQ.out, if_neg hbq1])
              obtain rfl : bq = false := by cases bq <;> simp at hbq1 ⊢
              go_wp2_with (refine wpList_store_row rfl 31 _ _ rfl (w.heap.size + 1) #[.int .i64 k, .int .i64 o, .int .i64 m, .string (bs s), .slice (some ad) 2 c'] rfl rfl _ _ H9.out.rs expr_size rfl (expr_one _ _ _ _ _ _ _) ?_)
              (try simp only [Exit.inBlock, Exit.then]); refine bodyPost_ret (results_cell_row rfl _ _ _ _ _ _ _ rfl (setRow_heap _ _ _ _ _ _ H9.out.rs) Try.underlying31 rfl (by kernel_rfl)) rfl ?_
              exact expr_out H9.out HRB.out HYA.out HNM.out HNA.out HPE.out _
          · go_wp2_with fail
            refine (r18number_any (EL.mk yk yo ym ys9 yA yn yc yl) _).mono ?_
            rintro e w8 ⟨he, hb⟩
            rw [show decide ((EL.mk yk yo ym ys9 yA yn yc yl).kind = 1) = false from decide_eq_false hy1] at he
            subst he
            have H8 := Lib.hid (H5.out.below hb)
            clear hb
            clear d0 d1 d2 d3 d4 x0 x1 x2 x3 x4 y0 y1 y2 y3 y4 y5
            have d0 := H8.out.bx.cell 0
            have d1 := H8.out.bx.cell 1
            have d2 := H8.out.bx.cell 2
            have d3 := H8.out.bx.cell 3
            have d4 := H8.out.bx.cell 4
            simp at d0 d1 d2 d3 d4
            obtain ⟨ad0, hd0, _, hc0⟩ := row_at H8.out.row (j := 0) (by omega)
            obtain rfl : ad = ad0 := by injection hd0
            obtain ⟨x0, x1, x2, x3, x4⟩ := hc0 _ HXQ.out
            simp only [Nat.zero_mul, Nat.one_mul, add_zeroF, EL.kind, EL.op, EL.num, EL.name, EL.A, EL.n, EL.c] at x0 x1 x2 x3 x4
            clear hc0
            obtain ⟨ad1, hd1, _, hc1⟩ := row_at H8.out.row (j := 1) (by omega)
            obtain rfl : ad = ad1 := by injection hd1
            obtain ⟨y0, y1, y2, y3, y4⟩ := hc1 _ HYQ.out
            simp only [Nat.zero_mul, Nat.one_mul, add_zeroF, EL.kind, EL.op, EL.num, EL.name, EL.A, EL.n, EL.c] at y0 y1 y2 y3 y4
            clear hc1
            have y5 := y0
            rw [add_fiveF] at y5 y1 y2 y3 y4
            simp only [] at y1 y2 y3 y4
            have HPE : Hid (P = .mk k o m s (ys.map plE)) := Lib.hid (by rw [HP2.out, if_neg (fun h => h HX1.out), if_neg HN1.out, if_neg HN2.out, if_pos hy1])
            go_wp2_with (refine wpList_store_row rfl 31 _ _ rfl (w.heap.size + 1) #[.int .i64 k, .int .i64 o, .int .i64 m, .string (bs s), .slice (some ad) 2 c'] rfl rfl _ _ H8.out.rs expr_size rfl (expr_one _ _ _ _ _ _ _) ?_)
            (try simp only [Exit.inBlock, Exit.then]); refine bodyPost_ret (results_cell_row rfl _ _ _ _ _ _ _ rfl (setRow_heap _ _ _ _ _ _ H8.out.rs) Try.underlying31 rfl (by kernel_rfl)) rfl ?_
            exact expr_out H8.out HRB.out HYA.out HNM.out HNA.out HPE.out _
        · have r0 : (a != 0) = true := by simp [ha0]
          have HPE : Hid (P = numP 1) := Lib.hid (by rw [HP2.out, if_neg (fun h => h HX1.out), if_neg HN1.out, if_pos ⟨ho1, ha0⟩])
          clear ho2 ho1 ha0
          go_wp2_with fail
          refine (r18num_any (1) _).mono ?_
          rintro e w6 ⟨rfl, hb⟩
          have H6 := Lib.hid (H5.out.below hb)
          clear hb
          clear d0 d1 d2 d3 d4 x0 x1 x2 x3 x4 y0 y1 y2 y3 y4 y5
          go_wp2_with (refine wpList_store_row rfl 31 _ _ rfl (w.heap.size + 1) #[.int .i64 1, .int .i64 0, .int .i64 (1), .string ⟨#[]⟩, .slice none 0 0] rfl rfl _ _ H6.out.rs expr_size rfl (expr_one _ _ _ _ _ _ _) ?_)
          (try simp only [Exit.inBlock, Exit.then]); refine bodyPost_ret (results_cell_row rfl _ _ _ _ _ _ _ rfl (setRow_heap _ _ _ _ _ _ H6.out.rs) Try.underlying31 rfl (by kernel_rfl)) rfl ?_
          exact num_out (by omega) HPE.out (below_setRow H6.out.blw (Nat.le_succ _) _)
      · have p1 : (o == 1) = false := by simp [ho1]
        have hn2 : ¬ (o = 1 ∧ a ≠ 0) := fun h => ho1 h.1
        have HN2 := Lib.hid hn2
        clear ho2 ho1 hn2
        by_cases hy1 : yk = 1
        · have HY1 := Lib.hid hy1
          clear hy1
          go_wp2_with fail
          refine (r18number_any (EL.mk yk yo ym ys9 yA yn yc yl) _).mono ?_
          rintro e w8 ⟨he, hb⟩
          rw [show decide ((EL.mk yk yo ym ys9 yA yn yc yl).kind = 1) = true from decide_eq_true HY1.out] at he
          subst he
          have H8 := Lib.hid (H5.out.below hb)
          clear hb
          clear d0 d1 d2 d3 d4 x0 x1 x2 x3 x4 y0 y1 y2 y3 y4 y5
          have d0 := H8.out.bx.cell 0
          have d1 := H8.out.bx.cell 1
          have d2 := H8.out.bx.cell 2
          have d3 := H8.out.bx.cell 3
          have d4 := H8.out.bx.cell 4
          simp at d0 d1 d2 d3 d4
          obtain ⟨ad0, hd0, _, hc0⟩ := row_at H8.out.row (j := 0) (by omega)
          obtain rfl : ad = ad0 := by injection hd0
          obtain ⟨x0, x1, x2, x3, x4⟩ := hc0 _ HXQ.out
          simp only [Nat.zero_mul, Nat.one_mul, add_zeroF, EL.kind, EL.op, EL.num, EL.name, EL.A, EL.n, EL.c] at x0 x1 x2 x3 x4
          clear hc0
          obtain ⟨ad1, hd1, _, hc1⟩ := row_at H8.out.row (j := 1) (by omega)
          obtain rfl : ad = ad1 := by injection hd1
          obtain ⟨y0, y1, y2, y3, y4⟩ := hc1 _ HYQ.out
          simp only [Nat.zero_mul, Nat.one_mul, add_zeroF, EL.kind, EL.op, EL.num, EL.name, EL.A, EL.n, EL.c] at y0 y1 y2 y3 y4
          clear hc1
          have y5 := y0
          rw [add_fiveF] at y5 y1 y2 y3 y4
          simp only [] at y1 y2 y3 y4
          obtain ⟨⟨bv, bq⟩, hbq⟩ : ∃ p, p = binV o a ym := ⟨_, rfl⟩
          have HBQ := Lib.hid hbq
          have hbin : ∀ v : World, Calls Try.prog 35 #[.int .i64 o, .int .i64 a, .int .i64 ym] v fun e w' => e = .returned (.tuple #[.int .i64 bv, .bool bq]) ∧ w' = v := fun v => by
            have := r18bin_any o a ym v
            rw [← hbq] at this
            exact this
          have HBR : Hid (-9223372036854775808 ≤ bv ∧ bv ≤ 9223372036854775807) := Lib.hid (by have := binV_range o a ym (by rw [HWA.out]; exact wrapV_range xm); rw [← hbq] at this; exact this)
          clear hbq
          go_wp2_with fail
          go_quiet ((go_at_call 35; exact Calls.quiet_of_same (hbin _)))
          obtain ⟨V, hV⟩ : ∃ V0, V0 = w8.drewN nq := ⟨_, rfl⟩
          have H9 : Hid (FSt w V k o m s (some ad) 2 c' ys) := Lib.hid (by rw [hV]; exact H8.out.below (below_dnF w8 _))
          rw [← hV]
          clear hV
          clear d0 d1 d2 d3 d4 x0 x1 x2 x3 x4 y0 y1 y2 y3 y4 y5
          have d0 := H9.out.bx.cell 0
          have d1 := H9.out.bx.cell 1
          have d2 := H9.out.bx.cell 2
          have d3 := H9.out.bx.cell 3
          have d4 := H9.out.bx.cell 4
          simp at d0 d1 d2 d3 d4
          by_cases hbq1 : bq = true
          · have HPE : Hid (P = numP bv) := Lib.hid (by rw [HP2.out, if_neg (fun h => h HX1.out), if_neg HN1.out, if_neg HN2.out, if_neg (fun h => h HY1.out), ← HBQ.out, if_pos hbq1])
            subst hbq1
            go_wp2_with fail
            refine (r18num_any (bv) _).mono ?_
            rintro e w6 ⟨rfl, hb⟩
            have H6 := Lib.hid (H9.out.below hb)
            clear hb
            clear d0 d1 d2 d3 d4
            go_wp2_with (refine wpList_store_row rfl 31 _ _ rfl (w.heap.size + 1) #[.int .i64 1, .int .i64 0, .int .i64 (bv), .string ⟨#[]⟩, .slice none 0 0] rfl rfl _ _ H6.out.rs expr_size rfl (expr_one _ _ _ _ _ _ _) ?_)
            (try simp only [Exit.inBlock, Exit.then]); refine bodyPost_ret (results_cell_row rfl _ _ _ _ _ _ _ rfl (setRow_heap _ _ _ _ _ _ H6.out.rs) Try.underlying31 rfl (by kernel_rfl)) rfl ?_
            exact num_out HBR.out HPE.out (below_setRow H6.out.blw (Nat.le_succ _) _)
          · have HPE : Hid (P = .mk k o m s (ys.map plE)) := Lib.hid (by rw [HP2.out, if_neg (fun h => h HX1.out), if_neg HN1.out, if_neg HN2.out, if_neg (fun h => h HY1.out), ← HBQ.out, if_neg hbq1])
            obtain rfl : bq = false := by cases bq <;> simp at hbq1 ⊢
            go_wp2_with (refine wpList_store_row rfl 31 _ _ rfl (w.heap.size + 1) #[.int .i64 k, .int .i64 o, .int .i64 m, .string (bs s), .slice (some ad) 2 c'] rfl rfl _ _ H9.out.rs expr_size rfl (expr_one _ _ _ _ _ _ _) ?_)
            (try simp only [Exit.inBlock, Exit.then]); refine bodyPost_ret (results_cell_row rfl _ _ _ _ _ _ _ rfl (setRow_heap _ _ _ _ _ _ H9.out.rs) Try.underlying31 rfl (by kernel_rfl)) rfl ?_
            exact expr_out H9.out HRB.out HYA.out HNM.out HNA.out HPE.out _
        · go_wp2_with fail
          refine (r18number_any (EL.mk yk yo ym ys9 yA yn yc yl) _).mono ?_
          rintro e w8 ⟨he, hb⟩
          rw [show decide ((EL.mk yk yo ym ys9 yA yn yc yl).kind = 1) = false from decide_eq_false hy1] at he
          subst he
          have H8 := Lib.hid (H5.out.below hb)
          clear hb
          clear d0 d1 d2 d3 d4 x0 x1 x2 x3 x4 y0 y1 y2 y3 y4 y5
          have d0 := H8.out.bx.cell 0
          have d1 := H8.out.bx.cell 1
          have d2 := H8.out.bx.cell 2
          have d3 := H8.out.bx.cell 3
          have d4 := H8.out.bx.cell 4
          simp at d0 d1 d2 d3 d4
          obtain ⟨ad0, hd0, _, hc0⟩ := row_at H8.out.row (j := 0) (by omega)
          obtain rfl : ad = ad0 := by injection hd0
          obtain ⟨x0, x1, x2, x3, x4⟩ := hc0 _ HXQ.out
          simp only [Nat.zero_mul, Nat.one_mul, add_zeroF, EL.kind, EL.op, EL.num, EL.name, EL.A, EL.n, EL.c] at x0 x1 x2 x3 x4
          clear hc0
          obtain ⟨ad1, hd1, _, hc1⟩ := row_at H8.out.row (j := 1) (by omega)
          obtain rfl : ad = ad1 := by injection hd1
          obtain ⟨y0, y1, y2, y3, y4⟩ := hc1 _ HYQ.out
          simp only [Nat.zero_mul, Nat.one_mul, add_zeroF, EL.kind, EL.op, EL.num, EL.name, EL.A, EL.n, EL.c] at y0 y1 y2 y3 y4
          clear hc1
          have y5 := y0
          rw [add_fiveF] at y5 y1 y2 y3 y4
          simp only [] at y1 y2 y3 y4
          have HPE : Hid (P = .mk k o m s (ys.map plE)) := Lib.hid (by rw [HP2.out, if_neg (fun h => h HX1.out), if_neg HN1.out, if_neg HN2.out, if_pos hy1])
          go_wp2_with (refine wpList_store_row rfl 31 _ _ rfl (w.heap.size + 1) #[.int .i64 k, .int .i64 o, .int .i64 m, .string (bs s), .slice (some ad) 2 c'] rfl rfl _ _ H8.out.rs expr_size rfl (expr_one _ _ _ _ _ _ _) ?_)
          (try simp only [Exit.inBlock, Exit.then]); refine bodyPost_ret (results_cell_row rfl _ _ _ _ _ _ _ rfl (setRow_heap _ _ _ _ _ _ H8.out.rs) Try.underlying31 rfl (by kernel_rfl)) rfl ?_
          exact expr_out H8.out HRB.out HYA.out HNM.out HNA.out HPE.out _
  · go_wp2_with fail
    refine (r18number_any (EL.mk xk xo xm xs xA xn xc xl) _).mono ?_
    rintro e w5 ⟨he, hb⟩
    rw [show decide ((EL.mk xk xo xm xs xA xn xc xl).kind = 1) = false from decide_eq_false hx1] at he
    subst he
    have H5 := Lib.hid (HSL.out.below hb)
    clear hb
    clear d0 d1 d2 d3 d4 x0 x1 x2 x3 x4 y0 y1 y2 y3 y4 y5
    have d0 := H5.out.bx.cell 0
    have d1 := H5.out.bx.cell 1
    have d2 := H5.out.bx.cell 2
    have d3 := H5.out.bx.cell 3
    have d4 := H5.out.bx.cell 4
    simp at d0 d1 d2 d3 d4
    obtain ⟨ad0, hd0, _, hc0⟩ := row_at H5.out.row (j := 0) (by omega)
    obtain rfl : ad = ad0 := by injection hd0
    obtain ⟨x0, x1, x2, x3, x4⟩ := hc0 _ HXQ.out
    simp only [Nat.zero_mul, Nat.one_mul, add_zeroF, EL.kind, EL.op, EL.num, EL.name, EL.A, EL.n, EL.c] at x0 x1 x2 x3 x4
    clear hc0
    obtain ⟨ad1, hd1, _, hc1⟩ := row_at H5.out.row (j := 1) (by omega)
    obtain rfl : ad = ad1 := by injection hd1
    obtain ⟨y0, y1, y2, y3, y4⟩ := hc1 _ HYQ.out
    simp only [Nat.zero_mul, Nat.one_mul, add_zeroF, EL.kind, EL.op, EL.num, EL.name, EL.A, EL.n, EL.c] at y0 y1 y2 y3 y4
    clear hc1
    have y5 := y0
    rw [add_fiveF] at y5 y1 y2 y3 y4
    simp only [] at y1 y2 y3 y4
    have HPE : Hid (P = .mk k o m s (ys.map plE)) := Lib.hid (by rw [HP2.out, if_pos hx1])
    go_wp2_with (refine wpList_store_row rfl 31 _ _ rfl (w.heap.size + 1) #[.int .i64 k, .int .i64 o, .int .i64 m, .string (bs s), .slice (some ad) 2 c'] rfl rfl _ _ H5.out.rs expr_size rfl (expr_one _ _ _ _ _ _ _) ?_)
    (try simp only [Exit.inBlock, Exit.then]); refine bodyPost_ret (results_cell_row rfl _ _ _ _ _ _ _ rfl (setRow_heap _ _ _ _ _ _ H5.out.rs) Try.underlying31 rfl (by kernel_rfl)) rfl ?_
    exact expr_out H5.out HRB.out HYA.out HNM.out HNA.out HPE.out _

theorem r18Expr_any : ∀ x : EL, FoldAt 10 x := EL.ind fun e ih => by
  by_cases h6 : e.kind = 6 ∧ e.n = 2
  · exact r18Expr_is e ih h6
  · exact r18Expr_not e ih h6

end

section
open Go.RowKit
set_option linter.unusedVariables false
set_option linter.unusedSimpArgs false

theorem stepB_un (out : List PS) (rest : Nat) (k m : Int) (s : List UInt8) (a : List PE) (b e : List PS) (h : ¬ (a.length = 1 ∧ (a[0]?.getD nilP).kind = 1)) : stepB out rest (.mk k m s a b e) = out ++ [.mk k m s a b e] := by
  unfold stepB
  exact (if_neg (fun g => h ⟨g.1, g.2.1⟩)).trans (if_neg (fun g => h ⟨g.1, g.2.1⟩))
theorem stepB_other (out : List PS) (rest : Nat) (k m : Int) (s : List UInt8) (a : List PE) (b e : List PS) (h : k ≠ 10 ∧ k ≠ 9) : stepB out rest (.mk k m s a b e) = out ++ [.mk k m s a b e] := by
  unfold stepB
  exact (if_neg (fun g => h.1 g.2.2.1)).trans (if_neg (fun g => h.2 g.2.2))
theorem stepB_gone (out : List PS) (rest : Nat) (m : Int) (s : List UInt8) (p : PE) (b e : List PS) (h : p.kind = 1) (h0 : wrapV p.num = 0) : stepB out rest (.mk 10 m s [p] b e) = out := by
  unfold stepB
  exact if_pos ⟨rfl, h, rfl, h0⟩
theorem stepB_while (out : List PS) (rest : Nat) (m : Int) (s : List UInt8) (p : PE) (b e : List PS) (h0 : wrapV p.num ≠ 0) : stepB out rest (.mk 10 m s [p] b e) = out ++ [.mk 10 m s [p] b e] := by
  unfold stepB
  exact (if_neg (fun g => h0 g.2.2.2)).trans (if_neg (fun g => absurd (show (10 : Int) = 9 from g.2.2) (by decide)))
theorem stepB_if (out : List PS) (rest : Nat) (m : Int) (s : List UInt8) (p : PE) (b e : List PS) (h : p.kind = 1) : stepB out rest (.mk 9 m s [p] b e) = if 256 < out.length + (if wrapV p.num ≠ 0 then b else e).length + rest then out ++ [.mk 9 m s [p] b e] else out ++ (if wrapV p.num ≠ 0 then b else e) := by
  unfold stepB
  exact (if_neg (fun g => absurd (show (9 : Int) = 10 from g.2.2.1) (by decide))).trans (if_pos ⟨rfl, h, rfl⟩)

theorem stepB_big (out : List PS) (rest : Nat) (m : Int) (s : List UInt8) (p : PE) (b e t : List PS) (h : p.kind = 1) (ht : (if wrapV p.num ≠ 0 then b else e) = t) (hb : 256 < out.length + t.length + rest) : stepB out rest (.mk 9 m s [p] b e) = out ++ [.mk 9 m s [p] b e] := by
  rw [stepB_if _ _ _ _ _ _ _ h, ht, if_pos hb]
theorem stepB_small (out : List PS) (rest : Nat) (m : Int) (s : List UInt8) (p : PE) (b e t : List PS) (h : p.kind = 1) (ht : (if wrapV p.num ≠ 0 then b else e) = t) (hb : ¬ 256 < out.length + t.length + rest) : stepB out rest (.mk 9 m s [p] b e) = out ++ t := by
  rw [stepB_if _ _ _ _ _ _ _ h, ht, if_neg hb]
theorem sum_F (m0 n5 n j : Nat) (hj : j < n) (hv : m0 + (n - j) ≤ max 256 n) (hm : n5 * 104 ≤ 140737488355328) (hn : n * 104 ≤ 140737488355328) : wrap64 (wrap64 (wrap64 (wrap64 ((m0 : Int) + (n5 : Int)) + (n : Int)) - (j : Int)) - 1) = ((m0 + n5 + (n - j - 1) : Nat) : Int) := by
  have h0 : m0 ≤ 1353245080340 := by omega
  have h1 : n5 ≤ 1353245080340 := by omega
  have h2 : n ≤ 1353245080340 := by omega
  clear hv hm hn
  rw [IntWalk.wrap64_in ((m0 : Int) + (n5 : Int)) (by omega), IntWalk.wrap64_in ((m0 : Int) + (n5 : Int) + (n : Int)) (by omega), IntWalk.wrap64_in ((m0 : Int) + (n5 : Int) + (n : Int) - (j : Int)) (by omega), IntWalk.wrap64_in ((m0 : Int) + (n5 : Int) + (n : Int) - (j : Int) - 1) (by omega)]
  omega

set_option maxRecDepth 100000 in
set_option maxHeartbeats 12800000 in
theorem r18Block_of (ss : List SL) (hE : ∀ x ∈ ss, FoldBAt 13 x.body ∧ FoldBAt 13 x.els) : FoldBAt 13 ss := by
  intro S w A n c hrow hins hat hS hlen hlit
  obtain ⟨i0, hi, hz0, hsz, hby⟩ := inf_parts inf_st
  have hl := hrow.1
  have hn63 := hrow.2.1
  have HE := Lib.hid hE
  have HR := Lib.hid hrow
  have HIN := Lib.hid hins
  have HAT := Lib.hid hat
  have HSB := Lib.hid hS
  have HLT := Lib.hid hlit
  have HL := Lib.hid hl
  have HI := Lib.hid hi
  have HZ0 := Lib.hid hz0
  have HSZ := Lib.hid hsz
  have HBY := Lib.hid hby
  have HLE := Lib.hid hlen
  clear hE hrow hins hat hS hlit hl hi hz0 hsz hby
  go_enter Try.func13, Try.ntmps13
  go_wp2_with fail
  go_loopw [3, 4] (fun vo vi wr => ∃ (j m cc : Nat) (AA : Option Addr) (ys : List SL), j ≤ n ∧ vi = .int .i64 j ∧ vo = .slice AA m cc ∧ Hid (FInv S w wr ss n j AA m cc ys)) (fun _ vi _ => n - (intOf vi).toNat)
  case atStart => exact ⟨0, 0, 0, none, [], Nat.zero_le _, rfl, rfl, Lib.hid ⟨ownFS_nil _ _ _, by simp, by simp, rfl, by omega, Below.refl _ _⟩⟩
  case round =>
    obtain ⟨j, m0, cc, AA, ys, hj, rfl, rfl, HV⟩ := hrel
    by_cases hlt : j < n
    · obtain ⟨ad, rfl, _, hcell⟩ := rowFS_at (HR.out.below HV.out.blw) hlt
      obtain ⟨x, hx⟩ : ∃ x, x = ss[j]?.getD nilS := ⟨_, rfl⟩
      obtain ⟨a0, a1, a2, a3, a4, a5⟩ := hcell x hx
      have hjl : j < ss.length := by rw [HL.out]; exact hlt
      have hmem : x ∈ ss := by rw [hx, List.getElem?_eq_getElem hjl]; exact List.getElem_mem hjl
      have HX := Lib.hid hx
      have HLX := Lib.hid (HLT.out x hmem)
      have HXI := Lib.hid (((HIN.out x hmem).below HV.out.blw).more HV.out.blw.size)
      have HXA := Lib.hid (HAT.out x hmem)
      have HEX := Lib.hid (HE.out x hmem)
      have HSW : Hid (∀ b, S b → b < wr.heap.size) := Lib.hid (fun b hb => Nat.lt_of_lt_of_le (HSB.out b hb) HV.out.blw.size)
      clear hx hcell hmem hjl
      obtain ⟨k, m, s, A1, n1, c1, es, A2, n2, c2, bo, A3, n3, c3, el⟩ := x
      simp only [SL.kind, SL.num, SL.name, SL.A, SL.n, SL.c, SL.A1, SL.n1, SL.c1, SL.A2, SL.n2, SL.c2] at a0 a1 a2 a3 a4 a5
      go_wp2_with (refine wpList_store_row rfl 48 _ _ rfl wr.heap.size #[.int .i64 k, .int .i64 m, .string (bs s), .slice A1 n1 c1, .slice A2 n2 c2, .slice A3 n3 c3] rfl rfl _ _ (Blk.new wr _ _) stmt_sizeF rfl (stmt_oneF _ _ _ _ _ _ _ _ _ _ _ _) ?_; obtain ⟨V, hV⟩ : ∃ V, V = (wr.alloc (.cells #[.int .i64 0, .int .i64 0, .string ⟨#[]⟩, .slice none 0 0, .slice none 0 0, .slice none 0 0] 48)).setRow wr.heap.size #[.int .i64 k, .int .i64 m, .string (bs s), .slice A1 n1 c1, .slice A2 n2 c2, .slice A3 n3 c3] := ⟨_, rfl⟩; rw [← hV]; obtain ⟨hkV0, hbV0⟩ := put_row hV; have HKV := Lib.hid hkV0; have HBV := Lib.hid hbV0; clear hV hkV0 hbV0; have d3 : V.cell? ⟨wr.heap.size, 3, none⟩ = some (.slice A1 n1 c1) := HKV.out.cell 3)
      have hkV := HKV.out
      have hbV := HBV.out
      obtain ⟨b0, hb0⟩ : ∃ b0, b0 = wr.heap.size := ⟨_, rfl⟩
      have HVB : Hid (BSt S b0 wr V (.mk k m s A1 n1 c1 es A2 n2 c2 bo A3 n3 c3 el)) := Lib.hid ⟨hb0.symm, by rw [hb0]; exact hkV, (HXI.out.below hbV).more hbV.size, HXA.out.mono fun b hb => .inl hb, by rw [hb0]; exact hbV⟩
      have HSW0 : Hid (∀ b, S b → b < b0) := Lib.hid (by rw [hb0]; exact HSW.out)
      have HB0 := Lib.hid hb0
      rw [← hb0]
      clear d3 hkV hbV HKV HBV hb0 a0 a1 a2 a3 a4 a5
      have d0 := HVB.out.bx.cell 0
      have d1 := HVB.out.bx.cell 1
      have d2 := HVB.out.bx.cell 2
      have d3 := HVB.out.bx.cell 3
      have d4 := HVB.out.bx.cell 4
      have d5 := HVB.out.bx.cell 5
      simp [sCells, SL.kind, SL.num, SL.name, SL.A, SL.n, SL.c, SL.A1, SL.n1, SL.c1, SL.A2, SL.n2, SL.c2] at d0 d1 d2 d3 d4 d5
      have HPL : Hid (plS (SL.mk k m s A1 n1 c1 es A2 n2 c2 bo A3 n3 c3 el) = .mk k m s (es.map plE) (bo.map plS) (el.map plS)) := Lib.hid (plS_eq _)
      have HPT : Hid (litS (.mk k m s (es.map plE) (bo.map plS) (el.map plS))) := Lib.hid (by rw [← HPL.out]; exact HLX.out)
      have HCA : Hid (Calls Try.prog 29 #[.slice A1 n1 c1] V fun f w' => ∃ (A' : Option Addr) (c' : Nat) (ys : List EL), f = .returned (.slice A' n1 c') ∧ RowE w' w'.heap.size A' n1 ys ∧ (0 < n1 → ∀ ad : Addr, A' = some ad → V.heap.size ≤ ad.block) ∧ (∀ y ∈ ys, y.In w' w'.heap.size) ∧ (∀ y ∈ ys, y.At (fun b => S b ∨ V.heap.size ≤ b)) ∧
            ys.map plE = es.map (fun x => foldP (plE x)) ∧ Below V.heap.size V w') := Lib.hid (by
        obtain ⟨⟨_, _, ⟨p1, p2⟩, _, _⟩, _, _⟩ := HVB.out.si.parts
        obtain ⟨⟨_, q2, _, _⟩, _, _⟩ := SL.At_eq.1 HXA.out
        obtain ⟨⟨l1, l2, _, _⟩, _, _⟩ := (litS_eq _).1 HPT.out
        exact r18all_of es (fun y _ => r18Expr_any y) S A1 n1 c1 V p1 (fun y hy => EL.Ins.mem p2 y hy) q2 (fun b hb => Nat.lt_trans (HSW0.out b hb) HVB.out.lt) (by have := l1; simp only [PS.args, List.length_map] at this; rw [← show es.length = n1 from p1.1]; exact this) (fun y hy => l2 _ (List.mem_map.2 ⟨y, hy, rfl⟩)))
      refine HCA.out.mono ?_
      rintro e w3 ⟨A4, c4, fs, rfl, hr, hrb, hI, hT, hP, hb⟩
      obtain ⟨V2, hV2⟩ : ∃ V2, V2 = w3.setCell ⟨b0, 3, none⟩ (.slice A4 n1 c4) := ⟨_, rfl⟩
      have HV2 : Hid (BSt S b0 wr V2 (.mk k m s A4 n1 c4 fs A2 n2 c2 bo A3 n3 c3 el)) := Lib.hid (by rw [hV2]; exact HVB.out.args HSW0.out hb c4 hr hrb hI hT)
      have HB2 : Hid (w3.heap[b0]? = some (.cells (sCells (.mk k m s A1 n1 c1 es A2 n2 c2 bo A3 n3 c3 el)) 48)) := Lib.hid (HVB.out.bx.below hb HVB.out.lt)
      have HFS := Lib.hid hP
      have g3 := (HVB.out.bx.below hb HVB.out.lt).cell 3
      have f3 := (HVB.out.bx.below hb HVB.out.lt).frozen 3
      simp [sCells, SL.A, SL.n, SL.c] at g3 f3
      clear hr hrb hI hT hP hb d0 d1 d2 d3 d4 d5 HCA
      have d0 := HV2.out.bx.cell 0
      have d1 := HV2.out.bx.cell 1
      have d2 := HV2.out.bx.cell 2
      have d3 := HV2.out.bx.cell 3
      have d4 := HV2.out.bx.cell 4
      have d5 := HV2.out.bx.cell 5
      simp [sCells, SL.kind, SL.num, SL.name, SL.A, SL.n, SL.c, SL.A1, SL.n1, SL.c1, SL.A2, SL.n2, SL.c2] at d0 d1 d2 d3 d4 d5
      rw [hV2] at d0 d1 d2 d3 d4 d5
      have HCB : Hid (Calls Try.prog 13 #[.slice A2 n2 c2] (w3.setCell ⟨b0, 3, none⟩ (.slice A4 n1 c4)) fun e w' => ∃ (A' : Option Addr) (m c' : Nat) (ys : List SL), e = .returned (.slice A' m c') ∧ RowS6 w' w'.heap.size A' m ys ∧ FreshRow V2.heap.size A' m c' ∧ (∀ y ∈ ys, y.In w' w'.heap.size) ∧ (∀ y ∈ ys, y.At (fun b => S b ∨ V2.heap.size ≤ b)) ∧
          ys.map plS = foldGo [] (bo.map plS) ∧ m * 104 ≤ 140737488355328 ∧ Below V2.heap.size V2 w') := Lib.hid (by
        rw [← hV2]
        obtain ⟨⟨_, _, _, p3, p4⟩, p5, p6⟩ := HV2.out.si.parts
        obtain ⟨⟨_, _, _, _⟩, q5, q6⟩ := SL.At_eq.1 HXA.out
        obtain ⟨⟨_, _, l3, l4⟩, l5, l6⟩ := (litS_eq _).1 HPT.out
        exact HEX.out.1 S V2 A2 n2 c2 p3 (fun y hy => SL.Ins.mem p5 y hy) q5 (fun b hb => Nat.lt_trans (HSW0.out b hb) HV2.out.lt) (by have := l3; simp only [PS.body, List.length_map] at this; rw [← show bo.length = n2 from p3.1]; exact this) (fun y hy => l5 _ (List.mem_map.2 ⟨y, hy, rfl⟩)))
      have HW2 := Lib.hid hV2
      clear hV2
      go_wp2_with fail
      refine HCB.out.mono ?_
      rintro e w4 ⟨A5, n5, c5, bs5, rfl, hr, hF, hI, hT, hP, hm5, hb⟩
      obtain ⟨V3, hV3⟩ : ∃ V3, V3 = w4.setCell ⟨b0, 4, none⟩ (.slice A5 n5 c5) := ⟨_, rfl⟩
      have HV3 : Hid (BSt S b0 wr V3 (.mk k m s A4 n1 c4 fs A5 n5 c5 bs5 A3 n3 c3 el)) := Lib.hid (by rw [hV3]; exact HV2.out.body HSW0.out hb hr hF hI hT)
      have HF5 : Hid (FreshRow b0 A5 n5 c5) := Lib.hid ⟨hF.1, fun ad e => ⟨Nat.le_trans (Nat.le_of_lt HV2.out.lt) (hF.2 ad e).1, (hF.2 ad e).2⟩⟩
      have HBS := Lib.hid hP
      have HM5 := Lib.hid hm5
      have g4 := (HV2.out.bx.below hb HV2.out.lt).cell 4
      have f4 := (HV2.out.bx.below hb HV2.out.lt).frozen 4
      simp [sCells, SL.A1, SL.n1, SL.c1] at g4 f4
      clear hr hF hI hT hP hm5 hb d0 d1 d2 d3 d4 d5 HCB g3 f3
      have d0 := HV3.out.bx.cell 0
      have d1 := HV3.out.bx.cell 1
      have d2 := HV3.out.bx.cell 2
      have d3 := HV3.out.bx.cell 3
      have d4 := HV3.out.bx.cell 4
      have d5 := HV3.out.bx.cell 5
      simp [sCells, SL.kind, SL.num, SL.name, SL.A, SL.n, SL.c, SL.A1, SL.n1, SL.c1, SL.A2, SL.n2, SL.c2] at d0 d1 d2 d3 d4 d5
      rw [hV3] at d0 d1 d2 d3 d4 d5
      have HCE : Hid (Calls Try.prog 13 #[.slice A3 n3 c3] (w4.setCell ⟨b0, 4, none⟩ (.slice A5 n5 c5)) fun e w' => ∃ (A' : Option Addr) (m c' : Nat) (ys : List SL), e = .returned (.slice A' m c') ∧ RowS6 w' w'.heap.size A' m ys ∧ FreshRow V3.heap.size A' m c' ∧ (∀ y ∈ ys, y.In w' w'.heap.size) ∧ (∀ y ∈ ys, y.At (fun b => S b ∨ V3.heap.size ≤ b)) ∧
          ys.map plS = foldGo [] (el.map plS) ∧ m * 104 ≤ 140737488355328 ∧ Below V3.heap.size V3 w') := Lib.hid (by
        rw [← hV3]
        obtain ⟨⟨_, _, _, p3, p4⟩, p5, p6⟩ := HV3.out.si.parts
        obtain ⟨⟨_, _, _, _⟩, q5, q6⟩ := SL.At_eq.1 HXA.out
        obtain ⟨⟨_, _, l3, l4⟩, l5, l6⟩ := (litS_eq _).1 HPT.out
        exact HEX.out.2 S V3 A3 n3 c3 p4 (fun y hy => SL.Ins.mem p6 y hy) q6 (fun b hb => Nat.lt_trans (HSW0.out b hb) HV3.out.lt) (by have := l4; simp only [PS.els, List.length_map] at this; rw [← show el.length = n3 from p4.1]; exact this) (fun y hy => l6 _ (List.mem_map.2 ⟨y, hy, rfl⟩)))
      have HW3 := Lib.hid hV3
      clear hV3
      go_wp2_with fail
      refine HCE.out.mono ?_
      rintro e w5 ⟨A6, n6, c6, es6, rfl, hr, hF, hI, hT, hP, hm6, hb⟩
      obtain ⟨V4, hV4⟩ : ∃ V4, V4 = w5.setCell ⟨b0, 5, none⟩ (.slice A6 n6 c6) := ⟨_, rfl⟩
      have HV4 : Hid (BSt S b0 wr (w5.setCell ⟨b0, 5, none⟩ (.slice A6 n6 c6)) (.mk k m s A4 n1 c4 fs A5 n5 c5 bs5 A6 n6 c6 es6)) := Lib.hid (HV3.out.els HSW0.out hb hr hF hI hT)
      have HF6 : Hid (FreshRow b0 A6 n6 c6) := Lib.hid ⟨hF.1, fun ad e => ⟨Nat.le_trans (Nat.le_of_lt HV3.out.lt) (hF.2 ad e).1, (hF.2 ad e).2⟩⟩
      have HES := Lib.hid hP
      have HM6 := Lib.hid hm6
      have g5 := (HV3.out.bx.below hb HV3.out.lt).cell 5
      have f5 := (HV3.out.bx.below hb HV3.out.lt).frozen 5
      simp [sCells, SL.A2, SL.n2, SL.c2] at g5 f5
      clear hr hF hI hT hP hm6 hb d0 d1 d2 d3 d4 d5 HCE g4 f4
      have HFO : Hid (foldS (plS (SL.mk k m s A1 n1 c1 es A2 n2 c2 bo A3 n3 c3 el)) = .mk k m s (fs.map plE) (bs5.map plS) (es6.map plS)) := Lib.hid (by
        rw [HPL.out, foldS_eq, HBS.out, HES.out, HFS.out]
        simp only [PS.kind, PS.num, PS.name, PS.args, PS.body, PS.els, List.map_map]
        rfl)
      clear HV2 HV3 HW2 HW3 HVB HEX HXI HLX HPT HB2
      have d0 := HV4.out.bx.cell 0
      have d1 := HV4.out.bx.cell 1
      have d2 := HV4.out.bx.cell 2
      have d3 := HV4.out.bx.cell 3
      have d4 := HV4.out.bx.cell 4
      have d5 := HV4.out.bx.cell 5
      simp [sCells, SL.kind, SL.num, SL.name, SL.A, SL.n, SL.c, SL.A1, SL.n1, SL.c1, SL.A2, SL.n2, SL.c2] at d0 d1 d2 d3 d4 d5
      have hfl : fs.length = n1 := by
        obtain ⟨⟨_, _, ⟨p1, _⟩, _, _⟩, _, _⟩ := HV4.out.si.parts
        exact p1.1
      have HFL := Lib.hid hfl
      clear hfl
      by_cases hn1 : n1 = 1
      · subst hn1
        obtain ⟨z, hz⟩ : ∃ z, z = fs[0]?.getD nilE := ⟨_, rfl⟩
        have hfz : fs = [z] := by
          have := HFL.out
          match fs, this with
          | [u], _ => rw [hz]; rfl
        obtain ⟨zd, rfl, _, _⟩ := row_at HV4.out.si.parts.1.2.2.1.1 (j := 0) Nat.one_pos
        obtain ⟨zk, zo, zm, zs, zA, zn, zc, zl⟩ := z
        have HZQ := Lib.hid hz
        have HFZ := Lib.hid hfz
        clear hz hfz
        have q1 : (((1 : Nat) : Int) == 1) = true := by decide
        obtain ⟨a, ha⟩ : ∃ a, a = wrapV zm := ⟨_, rfl⟩
        have HWA := Lib.hid ha
        clear ha
        obtain ⟨ad0, hd0, _, hc0⟩ := row_at HV4.out.si.parts.1.2.2.1.1 (j := 0) Nat.one_pos
        obtain rfl : zd = ad0 := by injection hd0
        obtain ⟨x0, x1, x2, x3, x4⟩ := hc0 _ HZQ.out
        simp only [Nat.zero_mul, add_zeroF, EL.kind, EL.op, EL.num, EL.name, EL.A, EL.n, EL.c] at x0 x1 x2 x3 x4
        clear hc0 hd0
        go_wp2_with fail
        refine (r18number_any (EL.mk zk zo zm zs zA zn zc zl) _).mono ?_
        rintro e w6 ⟨he, hb⟩
        by_cases hz1 : zk = 1
        · have HZ1 := Lib.hid hz1
          clear hz1
          rw [show decide ((EL.mk zk zo zm zs zA zn zc zl).kind = 1) = true from decide_eq_true HZ1.out] at he
          subst he
          have H6 := Lib.hid (HV4.out.below hb)
          clear hb
          clear d0 d1 d2 d3 d4 d5 x0 x1 x2 x3 x4
          have d0 := H6.out.bx.cell 0
          have d1 := H6.out.bx.cell 1
          have d2 := H6.out.bx.cell 2
          have d3 := H6.out.bx.cell 3
          have d4 := H6.out.bx.cell 4
          have d5 := H6.out.bx.cell 5
          simp [sCells, SL.kind, SL.num, SL.name, SL.A, SL.n, SL.c, SL.A1, SL.n1, SL.c1, SL.A2, SL.n2, SL.c2] at d0 d1 d2 d3 d4 d5
          obtain ⟨ad0, hd0, _, hc0⟩ := row_at H6.out.si.parts.1.2.2.1.1 (j := 0) Nat.one_pos
          obtain rfl : zd = ad0 := by injection hd0
          obtain ⟨x0, x1, x2, x3, x4⟩ := hc0 _ HZQ.out
          simp only [Nat.zero_mul, add_zeroF, EL.kind, EL.op, EL.num, EL.name, EL.A, EL.n, EL.c] at x0 x1 x2 x3 x4
          clear hc0 hd0
          by_cases hk10 : k = 10
          · have HK := Lib.hid hk10
            have q10 : (k == 10) = true := by rw [beq_dec18]; exact decide_eq_true hk10
            have q9 : (k == 9) = false := by rw [beq_dec18]; exact decide_eq_false (by omega)
            clear hk10
            go_wp2_with fail
            refine (r1Wrap_any zm _).mono ?_
            rintro e w9 ⟨he, hwe⟩
            rw [← HWA.out] at he
            subst he
            subst hwe
            by_cases ha0 : a = 0
            · have r0 : (a == 0) = true := by rw [beq_dec18]; exact decide_eq_true ha0
              have HA0 := Lib.hid ha0
              clear ha0
              have HFA : Hid (FInv S w w9 ss n (j + 1) AA m0 cc ys) := Lib.hid (HV.out.skip HL.out hlt HX.out (by rw [← HB0.out]; exact H6.out.blw) (by
                rw [HFO.out, HK.out, HFZ.out, List.map_cons, List.map_nil]
                exact stepB_gone _ _ _ _ _ _ _ (by rw [plE_eq]; exact HZ1.out) (by rw [plE_eq]; exact HWA.out.symm.trans HA0.out)))
              go_wp2_with fail
              go_roundw
              case rel => exact ⟨j + 1, m0, cc, AA, ys, by omega, by go_num, rfl, HFA⟩
              case measure => simp [intOf]; omega
            · have r0 : (a == 0) = false := by rw [beq_dec18]; exact decide_eq_false ha0
              have HA0 := Lib.hid ha0
              clear ha0
              have HST : Hid (stepB (ys.map plS) (n - j - 1) (foldS (plS (SL.mk k m s A1 1 c1 es A2 n2 c2 bo A3 n3 c3 el))) = ys.map plS ++ [SL.mk k m s (some zd) 1 c4 fs A5 n5 c5 bs5 A6 n6 c6 es6].map plS) := Lib.hid (by
                rw [HFO.out, HK.out, HFZ.out, List.map_cons (l := ([] : List EL)), List.map_nil, stepB_while _ _ _ _ _ _ _ (by rw [plE_eq]; exact fun g => HA0.out (HWA.out.trans g)), List.map_cons, List.map_nil, plS_eq]
                rfl)
              obtain ⟨W, hW⟩ : ∃ W, W = w9.alloc (.cells #[.int .i64 k, .int .i64 m, .string (bs s), .slice (some zd) 1 c4, .slice A5 n5 c5, .slice A6 n6 c6] 48) := ⟨_, rfl⟩
              obtain ⟨r1, r2, r3, r4, r5⟩ := H6.out.one (s := (SL.mk k m s (some zd) 1 c4 fs A5 n5 c5 bs5 A6 n6 c6 es6)) (W := W) (g := w9.heap.size) rfl (by rw [hW]; rfl)
              have HRW := Lib.hid r1
              have HRI := Lib.hid r3
              have HRA := Lib.hid r4
              have HBW : Hid (Below wr.heap.size wr W) := Lib.hid (by rw [← HB0.out]; exact r2)
              have HOW := Lib.hid (own_below HV.out.own HBW.out)
              have H7 := Lib.hid r5
              clear r1 r2 r3 r4 r5
              have e0 := H7.out.bx.cell 0
              have e1 := H7.out.bx.cell 1
              have e2 := H7.out.bx.cell 2
              have e3 := H7.out.bx.cell 3
              have e4 := H7.out.bx.cell 4
              have e5 := H7.out.bx.cell 5
              simp [sCells, SL.kind, SL.num, SL.name, SL.A, SL.n, SL.c, SL.A1, SL.n1, SL.c1, SL.A2, SL.n2, SL.c2] at e0 e1 e2 e3 e4 e5
              obtain ⟨ad0, hd0, _, hc0⟩ := row_at H7.out.si.parts.1.2.2.1.1 (j := 0) Nat.one_pos
              obtain rfl : zd = ad0 := by injection hd0
              obtain ⟨y0, y1, y2, y3, y4⟩ := hc0 _ HZQ.out
              simp only [Nat.zero_mul, add_zeroF, EL.kind, EL.op, EL.num, EL.name, EL.A, EL.n, EL.c] at y0 y1 y2 y3 y4
              clear hc0 hd0
              rw [hW] at e0 e1 e2 e3 e4 e5 y0 y1 y2 y3 y4
              go_wp2_with (first | (at_builtin; rw [← hW]; refine wpList_appS _ rfl _ _ 32 rfl w.heap.size 48 i0 _ Try.underlying32 HI.out HZ0.out rfl HSZ.out HBY.out (.slice AA m0 cc) m0 ys rfl HOW.out (some ⟨w9.heap.size, 0, none⟩) 1 1 W.heap.size [SL.mk k m s (some zd) 1 c4 fs A5 n5 c5 bs5 A6 n6 c6 es6] rfl (fun e => by cases e) (fun ad e => by injection e with e; subst e; rfl) HRW.out (by have := HV.out.len; have := HLE.out; omega) (Nat.le_trans HV.out.blw.size HBW.out.size) ?_; intro A' c' w9 hown hg hob) | go_in)
              have HFA : Hid (FInv S w w9 ss n (j + 1) A' (m0 + 1) c' (ys ++ [SL.mk k m s (some zd) 1 c4 fs A5 n5 c5 bs5 A6 n6 c6 es6])) := Lib.hid (HV.out.app HL.out hlt HX.out HBW.out HSB.out HRW.out.1 HRI.out (by rw [← HB0.out]; exact HRA.out) HST.out hown hg hob)
              clear hown hg hob hW
              go_wp2_with fail
              go_roundw
              case rel => exact ⟨j + 1, m0 + 1, c', A', _, by omega, by go_num, rfl, HFA⟩
              case measure => simp [intOf]; omega
          · by_cases hk9 : k = 9
            · have q9 : (k == 9) = true := by rw [beq_dec18]; exact decide_eq_true hk9
              have q10 : (k == 10) = false := by rw [beq_dec18]; exact decide_eq_false hk10
              have HK := Lib.hid hk9
              clear hk9 hk10
              obtain ⟨W, hW⟩ : ∃ W, W = w6.alloc (.cells #[.int .i64 k, .int .i64 m, .string (bs s), .slice (some zd) 1 c4, .slice A5 n5 c5, .slice A6 n6 c6] 48) := ⟨_, rfl⟩
              obtain ⟨r1, r2, r3, r4, r5⟩ := H6.out.one (s := (SL.mk k m s (some zd) 1 c4 fs A5 n5 c5 bs5 A6 n6 c6 es6)) (W := W) (g := w6.heap.size) rfl (by rw [hW]; rfl)
              have HRW := Lib.hid r1
              have HRI := Lib.hid r3
              have HRA := Lib.hid r4
              have HBW : Hid (Below wr.heap.size wr W) := Lib.hid (by rw [← HB0.out]; exact r2)
              have HOW := Lib.hid (own_below HV.out.own HBW.out)
              have H7 := Lib.hid r5
              clear r1 r2 r3 r4 r5
              have e0 := H7.out.bx.cell 0
              have e1 := H7.out.bx.cell 1
              have e2 := H7.out.bx.cell 2
              have e3 := H7.out.bx.cell 3
              have e4 := H7.out.bx.cell 4
              have e5 := H7.out.bx.cell 5
              simp [sCells, SL.kind, SL.num, SL.name, SL.A, SL.n, SL.c, SL.A1, SL.n1, SL.c1, SL.A2, SL.n2, SL.c2] at e0 e1 e2 e3 e4 e5
              obtain ⟨ad0, hd0, _, hc0⟩ := row_at H7.out.si.parts.1.2.2.1.1 (j := 0) Nat.one_pos
              obtain rfl : zd = ad0 := by injection hd0
              obtain ⟨y0, y1, y2, y3, y4⟩ := hc0 _ HZQ.out
              simp only [Nat.zero_mul, add_zeroF, EL.kind, EL.op, EL.num, EL.name, EL.A, EL.n, EL.c] at y0 y1 y2 y3 y4
              clear hc0 hd0
              rw [hW] at e0 e1 e2 e3 e4 e5 y0 y1 y2 y3 y4
              go_wp2_with fail
              refine (r1Wrap_any zm _).mono ?_
              rintro e w9 ⟨he, hwe⟩
              rw [← HWA.out] at he
              subst he
              subst hwe
              by_cases ha0 : a = 0
              · have r0 : (a != 0) = false := by simp [ha0]
                have HA0 := Lib.hid ha0
                clear ha0
                have HIF : Hid ((if wrapV (plE (EL.mk zk zo zm zs zA zn zc zl)).num ≠ 0 then bs5.map plS else es6.map plS) = es6.map plS) := Lib.hid (if_neg (fun g => g (by rw [plE_eq]; exact HWA.out.symm.trans HA0.out)))
                have hbl : es6.length = n6 := (H7.out.si.parts.1.2.2.2.2).1
                have hol : ys.length = m0 := ownFS_len HV.out.own
                have hsum := sum_F m0 n6 n j hlt HV.out.len HM6.out HLE.out
                by_cases hbig : 256 < m0 + n6 + (n - j - 1)
                · have hbw : 256 < wrap64 (wrap64 (wrap64 (wrap64 ((m0 : Int) + (n6 : Int)) + (n : Int)) - (j : Int)) - 1) := by rw [hsum]; exact Int.ofNat_lt.2 hbig
                  have HST : Hid (stepB (ys.map plS) (n - j - 1) (foldS (plS (SL.mk k m s A1 1 c1 es A2 n2 c2 bo A3 n3 c3 el))) = ys.map plS ++ [SL.mk k m s (some zd) 1 c4 fs A5 n5 c5 bs5 A6 n6 c6 es6].map plS) := Lib.hid (by
                    rw [HFO.out, HK.out, HFZ.out, List.map_cons (l := ([] : List EL)), List.map_nil, stepB_big _ _ _ _ _ _ _ _ (by rw [plE_eq]; exact HZ1.out) HIF.out (by rw [List.length_map, List.length_map, hbl, hol]; exact hbig), List.map_cons, List.map_nil, plS_eq]
                    rfl)
                  clear hsum hbig hbl hol
                  obtain ⟨W2, hW2⟩ : ∃ W2, W2 = W.alloc (.cells #[.int .i64 k, .int .i64 m, .string (bs s), .slice (some zd) 1 c4, .slice A5 n5 c5, .slice A6 n6 c6] 48) := ⟨_, rfl⟩
                  obtain ⟨r1, r2, r3, r4, r5⟩ := H7.out.one (s := (SL.mk k m s (some zd) 1 c4 fs A5 n5 c5 bs5 A6 n6 c6 es6)) (W := W2) (g := w6.heap.size + 1) (by rw [hW]; simp) (by rw [hW2]; rfl)
                  have HRW := Lib.hid r1
                  have HRI := Lib.hid r3
                  have HRA := Lib.hid r4
                  have HBW : Hid (Below wr.heap.size wr W2) := Lib.hid (by rw [← HB0.out]; exact r2)
                  have HOW := Lib.hid (own_below HV.out.own HBW.out)
                  clear r1 r2 r3 r4 r5
                  go_wp2_with (first | (at_builtin; rw [← hW, ← hW2]; refine wpList_appS _ rfl _ _ 32 rfl w.heap.size 48 i0 _ Try.underlying32 HI.out HZ0.out rfl HSZ.out HBY.out (.slice AA m0 cc) m0 ys rfl HOW.out (some ⟨w6.heap.size + 1, 0, none⟩) 1 1 W2.heap.size [SL.mk k m s (some zd) 1 c4 fs A5 n5 c5 bs5 A6 n6 c6 es6] rfl (fun e => by cases e) (fun ad e => by injection e with e; subst e; rfl) HRW.out (by have := HV.out.len; have := HLE.out; omega) (Nat.le_trans HV.out.blw.size HBW.out.size) ?_; intro A' c' w9 hown hg hob) | go_in)
                  have HFA : Hid (FInv S w w9 ss n (j + 1) A' (m0 + 1) c' (ys ++ [SL.mk k m s (some zd) 1 c4 fs A5 n5 c5 bs5 A6 n6 c6 es6])) := Lib.hid (HV.out.app HL.out hlt HX.out HBW.out HSB.out HRW.out.1 HRI.out (by rw [← HB0.out]; exact HRA.out) HST.out hown hg hob)
                  clear hown hg hob hW hW2 hbw
                  go_wp2_with fail
                  go_roundw
                  case rel => exact ⟨j + 1, m0 + 1, c', A', _, by omega, by go_num, rfl, HFA⟩
                  case measure => simp [intOf]; omega
                · have hbw : ¬ 256 < wrap64 (wrap64 (wrap64 (wrap64 ((m0 : Int) + (n6 : Int)) + (n : Int)) - (j : Int)) - 1) := by rw [hsum]; exact fun g => hbig (Int.ofNat_lt.1 g)
                  have HST : Hid (stepB (ys.map plS) (n - j - 1) (foldS (plS (SL.mk k m s A1 1 c1 es A2 n2 c2 bo A3 n3 c3 el))) = ys.map plS ++ es6.map plS) := Lib.hid (by
                    rw [HFO.out, HK.out, HFZ.out, List.map_cons (l := ([] : List EL)), List.map_nil, stepB_small _ _ _ _ _ _ _ _ (by rw [plE_eq]; exact HZ1.out) HIF.out (by rw [List.length_map, List.length_map, hbl, hol]; exact hbig)])
                  have HSMALL := Lib.hid hbig
                  clear hsum hbig hbl hol
                  have HRW := Lib.hid (H7.out.si.parts.1.2.2.2.2)
                  have HRI : Hid (∀ y ∈ es6, y.In W W.heap.size) := Lib.hid (fun y hy => SL.Ins.mem H7.out.si.parts.2.2 y hy)
                  have HRA : Hid (∀ y ∈ es6, y.At (fun b => S b ∨ b0 + 1 ≤ b)) := Lib.hid ((SL.At_eq.1 H7.out.sa).2.2)
                  go_wp2_with (first | (at_builtin; rw [← hW]; refine wpList_appS _ rfl _ _ 32 rfl w.heap.size 48 i0 _ Try.underlying32 HI.out HZ0.out rfl HSZ.out HBY.out (.slice AA m0 cc) m0 ys rfl HOW.out A6 n6 c6 W.heap.size es6 rfl (fun e => HF6.out.1 e) (fun ad e => (HF6.out.2 ad e).2) HRW.out (by have := HSMALL.out; omega) (Nat.le_trans HV.out.blw.size HBW.out.size) ?_; intro A' c' w9 hown hg hob) | go_in)
                  have HFA : Hid (FInv S w w9 ss n (j + 1) A' (m0 + n6) c' (ys ++ es6)) := Lib.hid (HV.out.app HL.out hlt HX.out HBW.out HSB.out HRW.out.1 HRI.out (by rw [← HB0.out]; exact HRA.out) HST.out hown hg hob)
                  clear hown hg hob hW hbw
                  go_wp2_with fail
                  go_roundw
                  case rel => exact ⟨j + 1, m0 + n6, c', A', _, by omega, by go_num, rfl, HFA⟩
                  case measure => simp [intOf]; omega
              · have r0 : (a != 0) = true := by simp [ha0]
                have HA0 := Lib.hid ha0
                clear ha0
                have HIF : Hid ((if wrapV (plE (EL.mk zk zo zm zs zA zn zc zl)).num ≠ 0 then bs5.map plS else es6.map plS) = bs5.map plS) := Lib.hid (if_pos (by rw [plE_eq]; exact fun g => HA0.out (HWA.out.trans g)))
                have hbl : bs5.length = n5 := (H7.out.si.parts.1.2.2.2.1).1
                have hol : ys.length = m0 := ownFS_len HV.out.own
                have hsum := sum_F m0 n5 n j hlt HV.out.len HM5.out HLE.out
                by_cases hbig : 256 < m0 + n5 + (n - j - 1)
                · have hbw : 256 < wrap64 (wrap64 (wrap64 (wrap64 ((m0 : Int) + (n5 : Int)) + (n : Int)) - (j : Int)) - 1) := by rw [hsum]; exact Int.ofNat_lt.2 hbig
                  have HST : Hid (stepB (ys.map plS) (n - j - 1) (foldS (plS (SL.mk k m s A1 1 c1 es A2 n2 c2 bo A3 n3 c3 el))) = ys.map plS ++ [SL.mk k m s (some zd) 1 c4 fs A5 n5 c5 bs5 A6 n6 c6 es6].map plS) := Lib.hid (by
                    rw [HFO.out, HK.out, HFZ.out, List.map_cons (l := ([] : List EL)), List.map_nil, stepB_big _ _ _ _ _ _ _ _ (by rw [plE_eq]; exact HZ1.out) HIF.out (by rw [List.length_map, List.length_map, hbl, hol]; exact hbig), List.map_cons, List.map_nil, plS_eq]
                    rfl)
                  clear hsum hbig hbl hol
                  obtain ⟨W2, hW2⟩ : ∃ W2, W2 = W.alloc (.cells #[.int .i64 k, .int .i64 m, .string (bs s), .slice (some zd) 1 c4, .slice A5 n5 c5, .slice A6 n6 c6] 48) := ⟨_, rfl⟩
                  obtain ⟨r1, r2, r3, r4, r5⟩ := H7.out.one (s := (SL.mk k m s (some zd) 1 c4 fs A5 n5 c5 bs5 A6 n6 c6 es6)) (W := W2) (g := w6.heap.size + 1) (by rw [hW]; simp) (by rw [hW2]; rfl)
                  have HRW := Lib.hid r1
                  have HRI := Lib.hid r3
                  have HRA := Lib.hid r4
                  have HBW : Hid (Below wr.heap.size wr W2) := Lib.hid (by rw [← HB0.out]; exact r2)
                  have HOW := Lib.hid (own_below HV.out.own HBW.out)
                  clear r1 r2 r3 r4 r5
                  go_wp2_with (first | (at_builtin; rw [← hW, ← hW2]; refine wpList_appS _ rfl _ _ 32 rfl w.heap.size 48 i0 _ Try.underlying32 HI.out HZ0.out rfl HSZ.out HBY.out (.slice AA m0 cc) m0 ys rfl HOW.out (some ⟨w6.heap.size + 1, 0, none⟩) 1 1 W2.heap.size [SL.mk k m s (some zd) 1 c4 fs A5 n5 c5 bs5 A6 n6 c6 es6] rfl (fun e => by cases e) (fun ad e => by injection e with e; subst e; rfl) HRW.out (by have := HV.out.len; have := HLE.out; omega) (Nat.le_trans HV.out.blw.size HBW.out.size) ?_; intro A' c' w9 hown hg hob) | go_in)
                  have HFA : Hid (FInv S w w9 ss n (j + 1) A' (m0 + 1) c' (ys ++ [SL.mk k m s (some zd) 1 c4 fs A5 n5 c5 bs5 A6 n6 c6 es6])) := Lib.hid (HV.out.app HL.out hlt HX.out HBW.out HSB.out HRW.out.1 HRI.out (by rw [← HB0.out]; exact HRA.out) HST.out hown hg hob)
                  clear hown hg hob hW hW2 hbw
                  go_wp2_with fail
                  go_roundw
                  case rel => exact ⟨j + 1, m0 + 1, c', A', _, by omega, by go_num, rfl, HFA⟩
                  case measure => simp [intOf]; omega
                · have hbw : ¬ 256 < wrap64 (wrap64 (wrap64 (wrap64 ((m0 : Int) + (n5 : Int)) + (n : Int)) - (j : Int)) - 1) := by rw [hsum]; exact fun g => hbig (Int.ofNat_lt.1 g)
                  have HST : Hid (stepB (ys.map plS) (n - j - 1) (foldS (plS (SL.mk k m s A1 1 c1 es A2 n2 c2 bo A3 n3 c3 el))) = ys.map plS ++ bs5.map plS) := Lib.hid (by
                    rw [HFO.out, HK.out, HFZ.out, List.map_cons (l := ([] : List EL)), List.map_nil, stepB_small _ _ _ _ _ _ _ _ (by rw [plE_eq]; exact HZ1.out) HIF.out (by rw [List.length_map, List.length_map, hbl, hol]; exact hbig)])
                  have HSMALL := Lib.hid hbig
                  clear hsum hbig hbl hol
                  have HRW := Lib.hid (H7.out.si.parts.1.2.2.2.1)
                  have HRI : Hid (∀ y ∈ bs5, y.In W W.heap.size) := Lib.hid (fun y hy => SL.Ins.mem H7.out.si.parts.2.1 y hy)
                  have HRA : Hid (∀ y ∈ bs5, y.At (fun b => S b ∨ b0 + 1 ≤ b)) := Lib.hid ((SL.At_eq.1 H7.out.sa).2.1)
                  go_wp2_with (first | (at_builtin; rw [← hW]; refine wpList_appS _ rfl _ _ 32 rfl w.heap.size 48 i0 _ Try.underlying32 HI.out HZ0.out rfl HSZ.out HBY.out (.slice AA m0 cc) m0 ys rfl HOW.out A5 n5 c5 W.heap.size bs5 rfl (fun e => HF5.out.1 e) (fun ad e => (HF5.out.2 ad e).2) HRW.out (by have := HSMALL.out; omega) (Nat.le_trans HV.out.blw.size HBW.out.size) ?_; intro A' c' w9 hown hg hob) | go_in)
                  have HFA : Hid (FInv S w w9 ss n (j + 1) A' (m0 + n5) c' (ys ++ bs5)) := Lib.hid (HV.out.app HL.out hlt HX.out HBW.out HSB.out HRW.out.1 HRI.out (by rw [← HB0.out]; exact HRA.out) HST.out hown hg hob)
                  clear hown hg hob hW hbw
                  go_wp2_with fail
                  go_roundw
                  case rel => exact ⟨j + 1, m0 + n5, c', A', _, by omega, by go_num, rfl, HFA⟩
                  case measure => simp [intOf]; omega
            · have q10 : (k == 10) = false := by rw [beq_dec18]; exact decide_eq_false hk10
              have q9 : (k == 9) = false := by rw [beq_dec18]; exact decide_eq_false hk9
              have HK10 := Lib.hid hk10
              have HK9 := Lib.hid hk9
              clear hk10 hk9
              have HST : Hid (stepB (ys.map plS) (n - j - 1) (foldS (plS (SL.mk k m s A1 1 c1 es A2 n2 c2 bo A3 n3 c3 el))) = ys.map plS ++ [SL.mk k m s (some zd) 1 c4 fs A5 n5 c5 bs5 A6 n6 c6 es6].map plS) := Lib.hid (by
                rw [HFO.out, stepB_other _ _ _ _ _ _ _ _ ⟨HK10.out, HK9.out⟩, List.map_cons, List.map_nil, plS_eq]
                rfl)
              obtain ⟨W, hW⟩ : ∃ W, W = w6.alloc (.cells #[.int .i64 k, .int .i64 m, .string (bs s), .slice (some zd) 1 c4, .slice A5 n5 c5, .slice A6 n6 c6] 48) := ⟨_, rfl⟩
              obtain ⟨r1, r2, r3, r4, r5⟩ := H6.out.one (s := (SL.mk k m s (some zd) 1 c4 fs A5 n5 c5 bs5 A6 n6 c6 es6)) (W := W) (g := w6.heap.size) rfl (by rw [hW]; rfl)
              have HRW := Lib.hid r1
              have HRI := Lib.hid r3
              have HRA := Lib.hid r4
              have HBW : Hid (Below wr.heap.size wr W) := Lib.hid (by rw [← HB0.out]; exact r2)
              have HOW := Lib.hid (own_below HV.out.own HBW.out)
              have H7 := Lib.hid r5
              clear r1 r2 r3 r4 r5
              have e0 := H7.out.bx.cell 0
              have e1 := H7.out.bx.cell 1
              have e2 := H7.out.bx.cell 2
              have e3 := H7.out.bx.cell 3
              have e4 := H7.out.bx.cell 4
              have e5 := H7.out.bx.cell 5
              simp [sCells, SL.kind, SL.num, SL.name, SL.A, SL.n, SL.c, SL.A1, SL.n1, SL.c1, SL.A2, SL.n2, SL.c2] at e0 e1 e2 e3 e4 e5
              obtain ⟨ad0, hd0, _, hc0⟩ := row_at H7.out.si.parts.1.2.2.1.1 (j := 0) Nat.one_pos
              obtain rfl : zd = ad0 := by injection hd0
              obtain ⟨y0, y1, y2, y3, y4⟩ := hc0 _ HZQ.out
              simp only [Nat.zero_mul, add_zeroF, EL.kind, EL.op, EL.num, EL.name, EL.A, EL.n, EL.c] at y0 y1 y2 y3 y4
              clear hc0 hd0
              rw [hW] at e0 e1 e2 e3 e4 e5 y0 y1 y2 y3 y4
              go_wp2_with (first | (at_builtin; rw [← hW]; refine wpList_appS _ rfl _ _ 32 rfl w.heap.size 48 i0 _ Try.underlying32 HI.out HZ0.out rfl HSZ.out HBY.out (.slice AA m0 cc) m0 ys rfl HOW.out (some ⟨w6.heap.size, 0, none⟩) 1 1 W.heap.size [SL.mk k m s (some zd) 1 c4 fs A5 n5 c5 bs5 A6 n6 c6 es6] rfl (fun e => by cases e) (fun ad e => by injection e with e; subst e; rfl) HRW.out (by have := HV.out.len; have := HLE.out; omega) (Nat.le_trans HV.out.blw.size HBW.out.size) ?_; intro A' c' w9 hown hg hob) | go_in)
              have HFA : Hid (FInv S w w9 ss n (j + 1) A' (m0 + 1) c' (ys ++ [SL.mk k m s (some zd) 1 c4 fs A5 n5 c5 bs5 A6 n6 c6 es6])) := Lib.hid (HV.out.app HL.out hlt HX.out HBW.out HSB.out HRW.out.1 HRI.out (by rw [← HB0.out]; exact HRA.out) HST.out hown hg hob)
              clear hown hg hob hW
              go_wp2_with fail
              go_roundw
              case rel => exact ⟨j + 1, m0 + 1, c', A', _, by omega, by go_num, rfl, HFA⟩
              case measure => simp [intOf]; omega
        · have HZ1 := Lib.hid hz1
          clear hz1
          rw [show decide ((EL.mk zk zo zm zs zA zn zc zl).kind = 1) = false from decide_eq_false HZ1.out] at he
          subst he
          have H6 := Lib.hid (HV4.out.below hb)
          clear hb
          clear d0 d1 d2 d3 d4 d5 x0 x1 x2 x3 x4
          have d0 := H6.out.bx.cell 0
          have d1 := H6.out.bx.cell 1
          have d2 := H6.out.bx.cell 2
          have d3 := H6.out.bx.cell 3
          have d4 := H6.out.bx.cell 4
          have d5 := H6.out.bx.cell 5
          simp [sCells, SL.kind, SL.num, SL.name, SL.A, SL.n, SL.c, SL.A1, SL.n1, SL.c1, SL.A2, SL.n2, SL.c2] at d0 d1 d2 d3 d4 d5
          obtain ⟨ad0, hd0, _, hc0⟩ := row_at H6.out.si.parts.1.2.2.1.1 (j := 0) Nat.one_pos
          obtain rfl : zd = ad0 := by injection hd0
          obtain ⟨x0, x1, x2, x3, x4⟩ := hc0 _ HZQ.out
          simp only [Nat.zero_mul, add_zeroF, EL.kind, EL.op, EL.num, EL.name, EL.A, EL.n, EL.c] at x0 x1 x2 x3 x4
          clear hc0 hd0
          have HST : Hid (stepB (ys.map plS) (n - j - 1) (foldS (plS (SL.mk k m s A1 1 c1 es A2 n2 c2 bo A3 n3 c3 el))) = ys.map plS ++ [SL.mk k m s (some zd) 1 c4 fs A5 n5 c5 bs5 A6 n6 c6 es6].map plS) := Lib.hid (by
            rw [HFO.out, stepB_un _ _ _ _ _ _ _ _ (fun g => HZ1.out (by have := g.2; rw [HFZ.out, List.map_cons, plE_eq] at this; exact this)), List.map_cons, List.map_nil, plS_eq]
            rfl)
          obtain ⟨W, hW⟩ : ∃ W, W = w6.alloc (.cells #[.int .i64 k, .int .i64 m, .string (bs s), .slice (some zd) 1 c4, .slice A5 n5 c5, .slice A6 n6 c6] 48) := ⟨_, rfl⟩
          obtain ⟨r1, r2, r3, r4, r5⟩ := H6.out.one (s := (SL.mk k m s (some zd) 1 c4 fs A5 n5 c5 bs5 A6 n6 c6 es6)) (W := W) (g := w6.heap.size) rfl (by rw [hW]; rfl)
          have HRW := Lib.hid r1
          have HRI := Lib.hid r3
          have HRA := Lib.hid r4
          have HBW : Hid (Below wr.heap.size wr W) := Lib.hid (by rw [← HB0.out]; exact r2)
          have HOW := Lib.hid (own_below HV.out.own HBW.out)
          have H7 := Lib.hid r5
          clear r1 r2 r3 r4 r5
          go_wp2_with (first | (at_builtin; rw [← hW]; refine wpList_appS _ rfl _ _ 32 rfl w.heap.size 48 i0 _ Try.underlying32 HI.out HZ0.out rfl HSZ.out HBY.out (.slice AA m0 cc) m0 ys rfl HOW.out (some ⟨w6.heap.size, 0, none⟩) 1 1 W.heap.size [SL.mk k m s (some zd) 1 c4 fs A5 n5 c5 bs5 A6 n6 c6 es6] rfl (fun e => by cases e) (fun ad e => by injection e with e; subst e; rfl) HRW.out (by have := HV.out.len; have := HLE.out; omega) (Nat.le_trans HV.out.blw.size HBW.out.size) ?_; intro A' c' w9 hown hg hob) | go_in)
          have HFA : Hid (FInv S w w9 ss n (j + 1) A' (m0 + 1) c' (ys ++ [SL.mk k m s (some zd) 1 c4 fs A5 n5 c5 bs5 A6 n6 c6 es6])) := Lib.hid (HV.out.app HL.out hlt HX.out HBW.out HSB.out HRW.out.1 HRI.out (by rw [← HB0.out]; exact HRA.out) HST.out hown hg hob)
          clear hown hg hob hW
          go_wp2_with fail
          go_roundw
          case rel => exact ⟨j + 1, m0 + 1, c', A', _, by omega, by go_num, rfl, HFA⟩
          case measure => simp [intOf]; omega
      · have q1 : ((n1 : Int) == 1) = false := by rw [beq_dec18]; exact decide_eq_false (by omega)
        have HST : Hid (stepB (ys.map plS) (n - j - 1) (foldS (plS (SL.mk k m s A1 n1 c1 es A2 n2 c2 bo A3 n3 c3 el))) = ys.map plS ++ [SL.mk k m s A4 n1 c4 fs A5 n5 c5 bs5 A6 n6 c6 es6].map plS) := Lib.hid (by
          rw [HFO.out, stepB_un _ _ _ _ _ _ _ _ (fun g => hn1 (by have := g.1; rw [List.length_map, HFL.out] at this; exact this)), List.map_cons, List.map_nil, plS_eq]
          rfl)
        obtain ⟨W, hW⟩ : ∃ W, W = (w5.setCell ⟨b0, 5, none⟩ (.slice A6 n6 c6)).alloc (.cells #[.int .i64 k, .int .i64 m, .string (bs s), .slice A4 n1 c4, .slice A5 n5 c5, .slice A6 n6 c6] 48) := ⟨_, rfl⟩
        obtain ⟨r1, r2, r3, r4, r5⟩ := HV4.out.one (s := (SL.mk k m s A4 n1 c4 fs A5 n5 c5 bs5 A6 n6 c6 es6)) (W := W) (g := w5.heap.size) (by simp [World.setCell]) (by rw [hW]; rfl)
        have HRW := Lib.hid r1
        have HRI := Lib.hid r3
        have HRA := Lib.hid r4
        have HBW : Hid (Below wr.heap.size wr W) := Lib.hid (by rw [← HB0.out]; exact r2)
        have HOW := Lib.hid (own_below HV.out.own HBW.out)
        have H7 := Lib.hid r5
        clear r1 r2 r3 r4 r5
        go_wp2_with (first | (at_builtin; rw [← hW]; refine wpList_appS _ rfl _ _ 32 rfl w.heap.size 48 i0 _ Try.underlying32 HI.out HZ0.out rfl HSZ.out HBY.out (.slice AA m0 cc) m0 ys rfl HOW.out (some ⟨w5.heap.size, 0, none⟩) 1 1 W.heap.size [SL.mk k m s A4 n1 c4 fs A5 n5 c5 bs5 A6 n6 c6 es6] rfl (fun e => by cases e) (fun ad e => by injection e with e; subst e; rfl) HRW.out (by have := HV.out.len; have := HLE.out; omega) (Nat.le_trans HV.out.blw.size HBW.out.size) ?_; intro A' c' w9 hown hg hob) | go_in)
        have HFA : Hid (FInv S w w9 ss n (j + 1) A' (m0 + 1) c' (ys ++ [SL.mk k m s A4 n1 c4 fs A5 n5 c5 bs5 A6 n6 c6 es6])) := Lib.hid (HV.out.app HL.out hlt HX.out HBW.out HSB.out HRW.out.1 HRI.out (by rw [← HB0.out]; exact HRA.out) HST.out hown hg hob)
        clear hown hg hob hW
        go_wp2_with fail
        go_roundw
        case rel => exact ⟨j + 1, m0 + 1, c', A', _, by omega, by go_num, rfl, HFA⟩
        case measure => simp [intOf]; omega
    · obtain rfl : j = n := by omega
      go_wp2_with fail
      go_ret
      exact ⟨_, _, _, ys, rfl, rowFS_of_own HV.out.own (by have := HV.out.len; have := HLE.out; omega), fresh_of_own HV.out.own, HV.out.ins, fun y hy => (HV.out.ats y hy).mono fun b hb => hb.1, by have := HV.out.val; rw [← HL.out, List.drop_length] at this; rw [← this, List.map_nil, foldGo_nil], by have := HV.out.len; have := HLE.out; omega, HV.out.blw⟩

theorem r18Block_any : ∀ ss : List SL, FoldBAt 13 ss := by
  have key : ∀ s : SL, FoldBAt 13 s.body ∧ FoldBAt 13 s.els := SL.ind fun s i1 i2 => ⟨r18Block_of s.body i1, r18Block_of s.els i2⟩
  exact fun ss => r18Block_of ss fun x _ => key x

end

section
open Go.RowKit

theorem sameEs_no {a b : List EL} {j : Nat} (hl : a.length = b.length) (hj : j < a.length) (h : sameE (a[j]?.getD nilE) (b[j]?.getD nilE) = false) : sameEs a b = false := by
  cases hs : sameEs a b with
  | false => rfl
  | true =>
    have := (sameEs_at hl).1 hs j hj
    rw [h] at this
    cases this

end

section
open Go.RowKit

theorem sameSs_no {a b : List SL} {j : Nat} (hl : a.length = b.length) (hj : j < a.length) (h : sameS (a[j]?.getD nilS) (b[j]?.getD nilS) = false) : sameSs a b = false := by
  cases hs : sameSs a b with
  | false => rfl
  | true =>
    have := (sameSs_at hl).1 hs j hj
    rw [h] at this
    cases this

end

end Go.Proofs.Ytiioffjjlcfhgaa
