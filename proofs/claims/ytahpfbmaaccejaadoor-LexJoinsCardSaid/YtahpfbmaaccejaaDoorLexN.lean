/- Contracts of the program's isDecimal, fits, size, Number, at digits. -/
import Derived.Test.YtahpfbmaaccejaaDoorLexM
import Derived.Test.YtahpfbmaaccejaaDoorLexD
import Derived.Test.YtahpfbmaaccejaaDoorLexF
import Derived.Test.YtahpfbmaaccejaaDoorFmt
namespace Go.Proofs.YtahpfbmaaccejaaDoor
open Go.RowKit

/-- digits compare as their numbers -/
theorem le_num : ∀ (a b : List UInt8), a.length = b.length → (∀ c ∈ a, isDg c = true) → (∀ c ∈ b, isDg c = true) → (Op.bytesLess a b || a == b) = decide (numF 0 a ≤ numF 0 b) := by
  intro a
  induction a with
  | nil =>
    intro b hl _ _
    cases b with
    | nil => rfl
    | cons c b => simp at hl
  | cons c a ih =>
    intro b hl ha hb
    cases b with
    | nil => simp at hl
    | cons d b =>
      rw [List.length_cons, List.length_cons] at hl
      have hl2 : a.length = b.length := by omega
      have hi := ih b hl2 (fun x hx => ha x (by simp [hx])) (fun x hx => hb x (by simp [hx]))
      have hc := dg_val (ha c (by simp))
      have hd := dg_val (hb d (by simp))
      have h1 := numF_lt a (fun x hx => ha x (by simp [hx]))
      have h2 := numF_lt b (fun x hx => hb x (by simp [hx]))
      have e : (Op.bytesLess (c :: a) (d :: b) || (c :: a) == (d :: b)) = (decide (c < d) || (c == d && (Op.bytesLess a b || a == b))) := by
        show ((decide (c < d) || (c == d && Op.bytesLess a b)) || (c == d && a == b)) = _
        cases decide (c < d) <;> cases (c == d) <;> cases Op.bytesLess a b <;> cases (a == b) <;> rfl
      rw [e, hi, numF_cons, numF_cons, Nat.mul_zero, Nat.zero_add, Nat.zero_add, numF_lin a (c.toNat - 48), numF_lin b (d.toNat - 48), hl2]
      rw [hl2] at h1
      generalize 10 ^ b.length = T at *
      generalize numF 0 a = x at *
      generalize numF 0 b = y at *
      by_cases hlt : c < d
      · have hv : c.toNat < d.toNat := hlt
        have h9 : c.toNat - 48 + 1 ≤ d.toNat - 48 := by omega
        have := Nat.mul_le_mul_right T h9
        rw [Nat.add_mul, Nat.one_mul] at this
        rw [decide_eq_true hlt, Bool.true_or, decide_eq_true (by omega)]
      · by_cases heq : c = d
        · subst heq
          rw [decide_eq_false hlt, Bool.false_or, beq_self_eq_true, Bool.true_and]
          by_cases hxy : x ≤ y
          · rw [decide_eq_true hxy, decide_eq_true (by omega)]
          · rw [decide_eq_false hxy, decide_eq_false (by omega)]
        · have hv : ¬ c.toNat < d.toNat := hlt
          have hne : c.toNat ≠ d.toNat := fun h => heq (UInt8.toNat_inj.mp h)
          have h9 : d.toNat - 48 + 1 ≤ c.toNat - 48 := by omega
          have := Nat.mul_le_mul_right T h9
          rw [Nat.add_mul, Nat.one_mul] at this
          rw [decide_eq_false hlt, Bool.false_or, beq_eq_false_iff_ne.mpr heq, Bool.false_and, decide_eq_false (by omega)]

theorem most_num : numF 0 [51, 50, 55, 54, 55] = 32767 := by decide
theorem most_dg : ∀ c ∈ ([51, 50, 55, 54, 55] : List UInt8), isDg c = true := by decide

theorem dg_all {s : ByteArray} (hd : ∀ (j : Nat) (h : j < s.size), isDg s[j] = true) : ∀ c ∈ s.data.toList, isDg c = true := by
  intro c hc
  obtain ⟨j, hj, rfl⟩ := List.mem_iff_getElem.mp hc
  have hj2 : j < s.size := by rw [Array.length_toList] at hj; exact hj
  have e : s.data.toList[j] = s[j] := by rw [Array.getElem_toList]; rfl
  rw [e]
  exact hd j hj2

/-- what isDecimal tells of digits -/
def decB (s : ByteArray) : Bool := !(decide ((s.data.toList[0]?.getD 0).toNat = 48) && decide (1 < s.size))

theorem decB_one {s : ByteArray} (h : s.size = 1) : decB s = true := by unfold decB; rw [decide_eq_false (show ¬ 1 < s.size by omega), Bool.and_false]; rfl
theorem decB_first {s : ByteArray} (h0 : 0 < s.size) (h : s[0].toNat ≠ 48) : decB s = true := by unfold decB; rw [byte_at s 0 h0, decide_eq_false h]; rfl
theorem decB_no {s : ByteArray} (h0 : 0 < s.size) (h : s[0].toNat = 48) (h1 : 1 < s.size) : decB s = false := by unfold decB; rw [byte_at s 0 h0, decide_eq_true h, decide_eq_true h1]; rfl

set_option maxRecDepth 100000 in
set_option maxHeartbeats 3200000 in
theorem isDec_any (w : World) (s : ByteArray) (hd : ∀ (j : Nat) (h : j < s.size), isDg s[j] = true) (h0 : 0 < s.size) (hs : (s.size : Int) ≤ 100000) :
    Calls Tryd.prog 58 #[.string s] w fun e w' => e = .returned (.bool (decB s)) ∧ Below w.heap.size w w' := by
  obtain ⟨D, hD⟩ : ∃ D, D = decB s := ⟨_, rfl⟩
  have HD := Lib.hid hD
  rw [← hD]
  clear hD
  have HDG := Lib.hid hd
  clear hd
  go_enter Tryd.func58, Tryd.ntmps58
  go_wp2_with fail
  go_loopw [6] (fun vi wr => ∃ j : Nat, j ≤ s.size ∧ vi = .int .i64 j ∧ Hid (Below w.heap.size w wr)) (fun vi _ => s.size - (intOf vi).toNat)
  case atStart => exact ⟨0, Nat.zero_le _, rfl, Lib.hid (Below.refl _ _)⟩
  case round =>
    obtain ⟨j, hj, rfl, HB⟩ := hrel
    have HBD : ∀ q, Hid (Below w.heap.size w (wr.drewN q)) := fun q => Lib.hid (below_drewN9 HB.out q)
    by_cases hlt : j < s.size
    · have hv := dg_val (HDG.out j hlt)
      have hlo : ¬ (s[j].toNat : Int) < 48 := by omega
      have hhi : ¬ (57 : Int) < (s[j].toNat : Int) := by omega
      have hlo2 : (48 : Int) ≤ (s[j].toNat : Int) := by omega
      have hhi2 : (s[j].toNat : Int) ≤ 57 := by omega
      clear hv
      go_wp2_with fail
      go_roundw
      case rel => exact ⟨j + 1, by omega, by go_num, HB⟩
      case measure => simp [intOf]; omega
    · have hd0 := drop_at h0
      rw [List.drop_zero] at hd0
      have hne : s.toList ≠ [] := by rw [Lib.toList_data, hd0]; exact List.cons_ne_nil _ _
      have t0 : (s.toList == []) = false := beq_eq_false_iff_ne.2 hne
      have t1 : s.toList.isEmpty = false := by rw [Lib.toList_data, hd0]; rfl
      by_cases h48 : s[0].toNat = 48
      · have hc48 : s[0] = 48 := UInt8.toNat_inj.mp (by rw [h48]; rfl)
        by_cases h1 : s.size = 1
        · have HE : Hid (D = true) := Lib.hid (by rw [HD.out, decB_one h1])
          have t2 : (s.toList == [48]) = true := by
            rw [Lib.toList_data, hd0, hc48, List.drop_of_length_le (by rw [Array.length_toList]; exact Nat.le_of_eq h1)]
            rfl
          clear hd0 hne h48 hc48 h1
          go_wp2_with fail
          all_goals
            first | go_quiet (fail) | skip
          all_goals
            first | go_wp2_with fail | skip
          all_goals
            go_ret
            rw [HE.out]
            exact ⟨rfl, (by first | exact HB.out | exact (HBD _).out)⟩
        · have HE : Hid (D = false) := Lib.hid (by rw [HD.out, decB_no h0 h48 (by omega)])
          have t2 : (s.toList == [48]) = false := beq_eq_false_iff_ne.2 (fun h => h1 (by rw [Lib.size_eq, ← Lib.toList_data, h]; rfl))
          have t3 : ((s[0].toNat : Int) == 48) = true := by rw [beq_iff_eq]; omega
          have t4 : ((s[0].toNat : Int) != 48) = false := by rw [bne, t3]; rfl
          clear hd0 hne h48 hc48 h1
          go_wp2_with fail
          all_goals
            first | go_quiet (fail) | skip
          all_goals
            first | go_wp2_with fail | skip
          all_goals
            go_ret
            rw [HE.out]
            exact ⟨rfl, (by first | exact HB.out | exact (HBD _).out)⟩
      · have HE : Hid (D = true) := Lib.hid (by rw [HD.out, decB_first h0 h48])
        have t2 : (s.toList == [48]) = false := beq_eq_false_iff_ne.2 (fun h => h48 (by
          rw [Lib.toList_data, hd0] at h
          injection h with h _
          rw [h]
          rfl))
        have t3 : ((s[0].toNat : Int) == 48) = false := by rw [beq_eq_false_iff_ne]; omega
        have t4 : ((s[0].toNat : Int) != 48) = true := by rw [bne, t3]; rfl
        clear hd0 hne h48
        go_wp2_with fail
        all_goals
          first | go_quiet (fail) | skip
        all_goals
          first | go_wp2_with fail | skip
        all_goals
          go_ret
          rw [HE.out]
          exact ⟨rfl, (by first | exact HB.out | exact (HBD _).out)⟩

set_option maxRecDepth 100000 in
set_option maxHeartbeats 3200000 in
theorem nsize_any (w : World) (s : ByteArray) (hd : ∀ (j : Nat) (h : j < s.size), isDg s[j] = true) (hm : numL s.data.toList ≤ 32767) (hs : (s.size : Int) ≤ 100000) :
    Calls Tryd.prog 60 #[.string s] w fun e w' => e = .returned (.int .u64 (numL s.data.toList : Nat)) ∧ w = w' := by
  obtain ⟨N, hN⟩ : ∃ N, N = numL s.data.toList := ⟨_, rfl⟩
  have HN0 : Hid (N = numF 0 (s.data.toList.drop 0)) := Lib.hid hN
  rw [← hN] at hm ⊢
  clear hN
  have HM := Lib.hid hm
  have HDG := Lib.hid hd
  clear hd hm
  go_enter Tryd.func60, Tryd.ntmps60
  go_wp2_with fail
  go_loopw [3, 7] (fun vn vi wr => ∃ (k n : Nat), k ≤ s.size ∧ vi = .int .i64 k ∧ vn = .int .u64 n ∧ Hid (w = wr) ∧ Hid (N = numF n (s.data.toList.drop k))) (fun _ vi _ => s.size - (intOf vi).toNat)
  case atStart => exact ⟨0, 0, Nat.zero_le _, rfl, rfl, Lib.hid rfl, HN0⟩
  case round =>
    obtain ⟨k, n, hk, rfl, rfl, HW, HN⟩ := hrel
    have hw := HW.out
    subst hw
    clear HW
    by_cases hlt : k < s.size
    · have hv := dg_val (HDG.out k hlt)
      obtain ⟨d, hdd⟩ : ∃ d : Nat, d = s[k].toNat - 48 := ⟨_, rfl⟩
      have HD : Hid (N = numF (10 * n + d) (s.data.toList.drop (k + 1))) := Lib.hid (by rw [HN.out, drop_at hlt, numF_cons, hdd])
      have hle : 10 * n + d ≤ 32767 := by
        have := numF_ge (s.data.toList.drop (k + 1)) (10 * n + d)
        have h1 := HD.out
        have h2 := HM.out
        omega
      have w1 : IntKind.u8.wrap ((s[k].toNat : Int) - 48) = (d : Int) := by rw [IntKind.wrap_u8]; omega
      have w2 : IntKind.u64.wrap (10 * (n : Int)) = 10 * (n : Int) := by rw [IntKind.wrap_u64]; omega
      have w3 : IntKind.u64.wrap (10 * (n : Int) + (d : Int)) = 10 * (n : Int) + (d : Int) := by rw [IntKind.wrap_u64]; omega
      have w4 : IntKind.u64.wrap (d : Int) = (d : Int) := by rw [IntKind.wrap_u64]; omega
      have HC : Hid ((10 * (n : Int) + (d : Int)) = ((10 * n + d : Nat) : Int)) := Lib.hid (by omega)
      clear hv hdd hle HN
      go_wp2_with fail
      go_roundw
      case rel => exact ⟨k + 1, 10 * n + d, by omega, by go_num, by rw [HC.out], Lib.hid (by trivial), HD⟩
      case measure => simp [intOf]; omega
    · obtain rfl : k = s.size := by omega
      have HE : Hid (N = n) := Lib.hid (by
        rw [HN.out, List.drop_of_length_le (by rw [Array.length_toList]; exact Nat.le_refl _)]
        rfl)
      clear HN
      go_wp2_with fail
      go_ret
      rw [HE.out]
      exact ⟨rfl, rfl⟩

set_option maxRecDepth 100000 in
set_option maxHeartbeats 3200000 in
theorem nfits_any (w : World) (s : ByteArray) (hd : ∀ (j : Nat) (h : j < s.size), isDg s[j] = true) (h0 : 0 < s.size) (hz : decB s = true) (hs : (s.size : Int) ≤ 100000) (hP : Pw w) :
    Calls Tryd.prog 59 #[.string s, .int .u64 32767] w fun e w' => e = .returned (.bool (decide (numL s.data.toList ≤ 32767))) ∧ Below w.heap.size w w' := by
  have hl : s.data.toList.length = s.size := by rw [Array.length_toList]; rfl
  have hall := dg_all hd
  obtain ⟨D, hD⟩ : ∃ D, D = decide (numL s.data.toList ≤ 32767) := ⟨_, rfl⟩
  rw [← hD]
  have HP := Lib.hid hP
  by_cases h5 : s.size < 5
  · have HE : Hid (D = true) := Lib.hid (by
      rw [hD]
      refine decide_eq_true ?_
      have h1 := numL_lt _ hall
      have h2 : 10 ^ s.data.toList.length ≤ 10 ^ 4 := Nat.pow_le_pow_right (by omega) (by omega)
      omega)
    have h5i : (s.size : Int) < 5 := by omega
    clear hD hall hd hP hl h5 hz
    go_enter Tryd.func59, Tryd.ntmps59
    go_wp2_with fail
    refine (digits_most _ HP.out).mono ?_
    rintro e w1 ⟨rfl, hb⟩
    have HB := Lib.hid hb
    clear hb
    have HBD : ∀ q, Hid (Below w.heap.size w (w1.drewN q)) := fun q => Lib.hid (below_drewN9 HB.out q)
    go_wp2_with fail
    all_goals
      first | go_quiet (fail) | skip
    all_goals
      first | go_wp2_with fail | skip
    all_goals
      go_ret
      rw [HE.out]
      exact ⟨rfl, (by first | exact HB.out | exact (HBD _).out)⟩
  · by_cases h5e : s.size = 5
    · have hle := le_num s.data.toList [51, 50, 55, 54, 55] (by rw [hl, h5e]; rfl) hall most_dg
      have HE : Hid (D = (Op.bytesLess s.data.toList [51, 50, 55, 54, 55] || s.data.toList == [51, 50, 55, 54, 55])) := Lib.hid (by
        rw [hD, hle, most_num]
        rfl)
      have h5i : (s.size : Int) = 5 := by omega
      have t5a : decide ((s.size : Int) < 5) = false := decide_eq_false (by omega)
      have hop : ∀ W : World, (Op.stringOp .leq s ⟨#[51, 50, 55, 54, 55]⟩).run Tryd.prog W = .ok (.bool D) W := fun W => by
        rw [HE.out]
        simp [Op.stringOp, Sem.run_pure, Lib.toList_data]
      clear hD hall hd hP hl hz hle h5 h5e
      go_enter Tryd.func59, Tryd.ntmps59
      go_wp2_with fail
      refine (digits_most _ HP.out).mono ?_
      rintro e w1 ⟨rfl, hb⟩
      have HB := Lib.hid hb
      clear hb
      have HBD : ∀ q, Hid (Below w.heap.size w (w1.drewN q)) := fun q => Lib.hid (below_drewN9 HB.out q)
      go_wp2_with fail
      all_goals
        first | go_quiet (fail) | skip
      all_goals
        first | go_wp2_with fail | skip
      all_goals
        go_ret
        exact ⟨by first | rfl | (rw [HE.out, ← Lib.toList_data]; rfl), (by first | exact HB.out | exact (HBD _).out)⟩
    · have HE : Hid (D = false) := Lib.hid (by
        rw [hD]
        refine decide_eq_false ?_
        have hd0 := drop_at h0
        rw [List.drop_zero] at hd0
        have h48 : s[0].toNat ≠ 48 := fun h => by rw [decB_no h0 h (by omega)] at hz; cases hz
        have h1 := numL_ge (l := s.data.toList.drop (0 + 1)) (hd 0 h0) (by omega)
        rw [← hd0, List.length_drop, hl] at h1
        have h2 : 10 ^ 5 ≤ 10 ^ (s.size - (0 + 1)) := Nat.pow_le_pow_right (by omega) (by omega)
        omega)
      have h5a : ¬ (s.size : Int) < 5 := by omega
      have t5a : decide ((s.size : Int) < 5) = false := decide_eq_false h5a
      have h5b : ¬ (s.size : Int) = 5 := by omega
      have t5 : ((s.size : Int) == 5) = false := by simpa using h5b
      clear hD hall hd hP hl h5 hz h5e
      go_enter Tryd.func59, Tryd.ntmps59
      go_wp2_with fail
      refine (digits_most _ HP.out).mono ?_
      rintro e w1 ⟨rfl, hb⟩
      have HB := Lib.hid hb
      clear hb
      have HBD : ∀ q, Hid (Below w.heap.size w (w1.drewN q)) := fun q => Lib.hid (below_drewN9 HB.out q)
      go_wp2_with fail
      all_goals
        first | go_quiet (fail) | skip
      all_goals
        first | go_wp2_with fail | skip
      all_goals
        go_ret
        rw [HE.out]
        exact ⟨rfl, (by first | exact HB.out | exact (HBD _).out)⟩

/-- what Number hands back for digits -/
def nuV (bad : Bool) (N : Nat) : Value := .tuple #[.int .u64 ((if bad = true ∨ 32767 < N then 0 else N : Nat) : Int), .int .i64 (if bad = true then 4 else if 32767 < N then 5 else 0)]
theorem nuV_bad (N : Nat) : Value.tuple #[.int .u64 0, .int .i64 4] = nuV true N := by unfold nuV; simp
theorem nuV_big {N : Nat} (h : 32767 < N) : Value.tuple #[.int .u64 0, .int .i64 5] = nuV false N := by unfold nuV; simp [h]
theorem nuV_ok {N : Nat} (h : ¬ 32767 < N) : Value.tuple #[.int .u64 (N : Int), .int .i64 0] = nuV false N := by
  unfold nuV
  have h1 : ¬ (false = true ∨ 32767 < N) := by rintro (h2 | h2); cases h2; exact h h2
  rw [if_neg h1, if_neg (by decide), if_neg h]

set_option maxRecDepth 100000 in
set_option maxHeartbeats 3200000 in
theorem pNumber_any (w : World) (s : ByteArray) (hd : ∀ (j : Nat) (h : j < s.size), isDg s[j] = true) (h0 : 0 < s.size) (hs : (s.size : Int) ≤ 100000) (hP : Pw w) :
    Calls Tryd.prog 48 #[.string s, .int .u64 32767] w fun e w' => e = .returned (nuV (!decB s) (numL s.data.toList)) ∧ Below w.heap.size w w' := by
  have HP := Lib.hid hP
  obtain ⟨N, hN⟩ : ∃ N, N = numL s.data.toList := ⟨_, rfl⟩
  rw [← hN]
  obtain ⟨B, hB⟩ : ∃ B, B = decB s := ⟨_, rfl⟩
  rw [← hB]
  have c1 : ∀ W, Calls Tryd.prog 58 #[.string s] W fun e w' => e = .returned (.bool B) ∧ Below W.heap.size W w' := fun W => by rw [hB]; exact isDec_any W s hd h0 hs
  cases B with
  | false =>
    clear hP hB hN
    go_enter Tryd.func48, Tryd.ntmps48
    go_wp2_with fail
    refine (c1 _).mono ?_
    rintro e w1 ⟨rfl, hb⟩
    go_wp2_with fail
    go_ret2
    exact ⟨congrArg Ending.returned (nuV_bad N), hb⟩
  | true =>
    have c2 : ∀ W, Pw W → Calls Tryd.prog 59 #[.string s, .int .u64 32767] W fun e w' => e = .returned (.bool (decide (N ≤ 32767))) ∧ Below W.heap.size W w' := fun W hW => by rw [hN]; exact nfits_any W s hd h0 hB.symm hs hW
    by_cases hm : N ≤ 32767
    · have hdm : decide (N ≤ 32767) = true := decide_eq_true hm
      have c3 : ∀ W, Calls Tryd.prog 60 #[.string s] W fun e w' => e = .returned (.int .u64 (N : Nat)) ∧ W = w' := fun W => by rw [hN]; exact nsize_any W s hd (by rw [← hN]; exact hm) hs
      have HNB : Hid (¬ 32767 < N) := Lib.hid (by omega)
      rw [hdm] at c2
      clear hP hB hN hm hdm
      go_enter Tryd.func48, Tryd.ntmps48
      go_wp2_with fail
      refine (c1 _).mono ?_
      rintro e w1 ⟨rfl, hb⟩
      have HB1 := Lib.hid hb
      have HP1 := Lib.hid (HP.out.below hb (Nat.le_refl _))
      clear hb
      go_wp2_with fail
      refine (c2 _ HP1.out).mono ?_
      rintro e w2 ⟨rfl, hb⟩
      have HB2 := Lib.hid (HB1.out.trans (hb.mono HB1.out.size))
      clear hb
      go_wp2_with fail
      refine (c3 _).mono ?_
      rintro e w3 ⟨rfl, rfl⟩
      go_wp2_with fail
      go_ret2
      exact ⟨congrArg Ending.returned (nuV_ok HNB.out), HB2.out⟩
    · have hdm : decide (N ≤ 32767) = false := decide_eq_false hm
      have HNB : Hid (32767 < N) := Lib.hid (by omega)
      rw [hdm] at c2
      clear hP hB hN hm hdm
      go_enter Tryd.func48, Tryd.ntmps48
      go_wp2_with fail
      refine (c1 _).mono ?_
      rintro e w1 ⟨rfl, hb⟩
      have HB1 := Lib.hid hb
      have HP1 := Lib.hid (HP.out.below hb (Nat.le_refl _))
      clear hb
      go_wp2_with fail
      refine (c2 _ HP1.out).mono ?_
      rintro e w2 ⟨rfl, hb⟩
      have HB2 := Lib.hid (HB1.out.trans (hb.mono HB1.out.size))
      clear hb
      go_wp2_with fail
      go_ret2
      exact ⟨congrArg Ending.returned (nuV_big HNB.out), HB2.out⟩

end Go.Proofs.YtahpfbmaaccejaaDoor
