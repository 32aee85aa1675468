/- Contracts of the program's classes of bytes, of run over a function value, of escaped. -/
import Derived.Test.YtahpfbmaaccejaaDoorLexA
import Derived.Test.YtahpfbmaaccejaaDoorCls
import Derived.Test.YtahpfbmaaccejaaDoorLexQ
import Derived.Lib.Strings
import Derived.Laws.EntriesVeiled
namespace Go.Proofs.YtahpfbmaaccejaaDoor
open Go.RowKit

/-- a byte of a text as it is -/
def prB (c : UInt8) : Bool := decide (32 ≤ (c.toNat : Int)) && decide ((c.toNat : Int) ≤ 126)
/-- a byte that may not stand behind a number -/
def glB (c : UInt8) : Bool := isSm c || isCp c || decide ((c.toNat : Int) = 95)

set_option maxRecDepth 100000 in
set_option maxHeartbeats 800000 in
theorem pSmall_any (w : World) (c : UInt8) : Calls Tryd.prog 30 #[.int .u8 (c.toNat : Int)] w fun e w' => e = .returned (.bool (isSm c)) ∧ w = w' := by
  by_cases a : 97 ≤ (c.toNat : Int)
  · by_cases b : (c.toNat : Int) ≤ 122
    · have e : isSm c = true := by simp [isSm]; omega
      rw [e]
      clear e
      go_enter Tryd.func30, Tryd.ntmps30
      go_wp2_with fail
      go_ret
      exact ⟨rfl, rfl⟩
    · have e : isSm c = false := by simp [isSm]; omega
      rw [e]
      clear e
      go_enter Tryd.func30, Tryd.ntmps30
      go_wp2_with fail
      go_ret
      exact ⟨rfl, rfl⟩
  · have e : isSm c = false := by simp [isSm]; omega
    rw [e]
    clear e
    go_enter Tryd.func30, Tryd.ntmps30
    go_wp2_with fail
    go_ret
    exact ⟨rfl, rfl⟩

set_option maxRecDepth 100000 in
set_option maxHeartbeats 800000 in
theorem pDigit_any (w : World) (c : UInt8) : Calls Tryd.prog 32 #[.int .u8 (c.toNat : Int)] w fun e w' => e = .returned (.bool (isDg c)) ∧ w = w' := by
  by_cases a : 48 ≤ (c.toNat : Int)
  · by_cases b : (c.toNat : Int) ≤ 57
    · have e : isDg c = true := by simp [isDg]; omega
      rw [e]
      clear e
      go_enter Tryd.func32, Tryd.ntmps32
      go_wp2_with fail
      go_ret
      exact ⟨rfl, rfl⟩
    · have e : isDg c = false := by simp [isDg]; omega
      rw [e]
      clear e
      go_enter Tryd.func32, Tryd.ntmps32
      go_wp2_with fail
      go_ret
      exact ⟨rfl, rfl⟩
  · have e : isDg c = false := by simp [isDg]; omega
    rw [e]
    clear e
    go_enter Tryd.func32, Tryd.ntmps32
    go_wp2_with fail
    go_ret
    exact ⟨rfl, rfl⟩

set_option maxRecDepth 100000 in
set_option maxHeartbeats 800000 in
theorem pPrint_any (w : World) (c : UInt8) : Calls Tryd.prog 22 #[.int .u8 (c.toNat : Int)] w fun e w' => e = .returned (.bool (prB c)) ∧ w = w' := by
  by_cases a : 32 ≤ (c.toNat : Int)
  · by_cases b : (c.toNat : Int) ≤ 126
    · have e : prB c = true := by simp [prB]; omega
      rw [e]
      clear e
      go_enter Tryd.func22, Tryd.ntmps22
      go_wp2_with fail
      go_ret
      exact ⟨rfl, rfl⟩
    · have e : prB c = false := by simp [prB]; omega
      rw [e]
      clear e
      go_enter Tryd.func22, Tryd.ntmps22
      go_wp2_with fail
      go_ret
      exact ⟨rfl, rfl⟩
  · have e : prB c = false := by simp [prB]; omega
    rw [e]
    clear e
    go_enter Tryd.func22, Tryd.ntmps22
    go_wp2_with fail
    go_ret
    exact ⟨rfl, rfl⟩

set_option maxRecDepth 100000 in
set_option maxHeartbeats 1600000 in
theorem pGlued_any (w : World) (c : UInt8) : Calls Tryd.prog 47 #[.int .u8 (c.toNat : Int)] w fun e w' => e = .returned (.bool (glB c)) ∧ Below w.heap.size w w' := by
  obtain ⟨S, hS⟩ : ∃ S, S = isSm c := ⟨_, rfl⟩
  have hcall : ∀ W, Calls Tryd.prog 30 #[.int .u8 (c.toNat : Int)] W fun e w' => e = .returned (.bool S) ∧ W = w' := fun W => by rw [hS]; exact pSmall_any W c
  obtain ⟨D, hD⟩ : ∃ D, D = glB c := ⟨_, rfl⟩
  rw [← hD]
  unfold glB at hD
  rw [← hS] at hD
  have HD := Lib.hid hD
  clear hD hS
  cases S with
  | true =>
    have HE : Hid (D = true) := Lib.hid (by rw [HD.out]; rfl)
    go_enter Tryd.func47, Tryd.ntmps47
    go_wp2_with (go_at_call 30; refine (hcall _).mono ?_; rintro e w1 ⟨rfl, rfl⟩)
    all_goals
      go_ret
      rw [HE.out]
      exact ⟨by first | rfl | (simp; omega), Below.refl _ _⟩
  | false =>
    by_cases a : 65 ≤ (c.toNat : Int)
    · by_cases b : (c.toNat : Int) ≤ 90
      · have HE : Hid (D = true) := Lib.hid (by rw [HD.out]; simp [isCp]; omega)
        go_enter Tryd.func47, Tryd.ntmps47
        go_wp2_with (go_at_call 30; refine (hcall _).mono ?_; rintro e w1 ⟨rfl, rfl⟩)
        all_goals
          go_ret
          rw [HE.out]
          exact ⟨by first | rfl | (simp; omega), Below.refl _ _⟩
      · by_cases u : (c.toNat : Int) = 95
        · have HE : Hid (D = true) := Lib.hid (by rw [HD.out]; simp [isCp]; omega)
          have t : ((c.toNat : Int) == 95) = true := by simpa using u
          clear u
          go_enter Tryd.func47, Tryd.ntmps47
          go_wp2_with (go_at_call 30; refine (hcall _).mono ?_; rintro e w1 ⟨rfl, rfl⟩)
          all_goals
            go_ret
            rw [HE.out]
            exact ⟨by first | rfl | (simp; omega), Below.refl _ _⟩
        · have HE : Hid (D = false) := Lib.hid (by rw [HD.out]; simp [isCp]; omega)
          have t : ((c.toNat : Int) == 95) = false := by simpa using u
          clear u
          go_enter Tryd.func47, Tryd.ntmps47
          go_wp2_with (go_at_call 30; refine (hcall _).mono ?_; rintro e w1 ⟨rfl, rfl⟩)
          all_goals
            go_ret
            rw [HE.out]
            exact ⟨by first | rfl | (simp; omega), Below.refl _ _⟩
    · have t : ((c.toNat : Int) == 95) = false := by rw [beq_eq_false_iff_ne]; omega
      have HE : Hid (D = false) := Lib.hid (by rw [HD.out]; simp [isCp]; omega)
      go_enter Tryd.func47, Tryd.ntmps47
      go_wp2_with (go_at_call 30; refine (hcall _).mono ?_; rintro e w1 ⟨rfl, rfl⟩)
      all_goals
        go_ret
        rw [HE.out]
        exact ⟨by first | rfl | (simp; omega), Below.refl _ _⟩

set_option maxRecDepth 100000 in
set_option maxHeartbeats 1600000 in
theorem pName_any (w : World) (c : UInt8) : Calls Tryd.prog 44 #[.int .u8 (c.toNat : Int)] w fun e w' => e = .returned (.bool (isNm c)) ∧ Below w.heap.size w w' := by
  obtain ⟨S, hS⟩ : ∃ S, S = isSm c := ⟨_, rfl⟩
  have hcall : ∀ W, Calls Tryd.prog 30 #[.int .u8 (c.toNat : Int)] W fun e w' => e = .returned (.bool S) ∧ W = w' := fun W => by rw [hS]; exact pSmall_any W c
  obtain ⟨G, hG⟩ : ∃ G, G = isDg c := ⟨_, rfl⟩
  have hcall2 : ∀ W, Calls Tryd.prog 32 #[.int .u8 (c.toNat : Int)] W fun e w' => e = .returned (.bool G) ∧ W = w' := fun W => by rw [hG]; exact pDigit_any W c
  obtain ⟨U, hU⟩ : ∃ U, U = ((c.toNat : Int) == 95) := ⟨_, rfl⟩
  have hu : ((c.toNat : Int) == 95) = U := hU.symm
  obtain ⟨D, hD⟩ : ∃ D, D = isNm c := ⟨_, rfl⟩
  have HD : Hid (D = (S || G || U)) := Lib.hid (by rw [hD, hS, hG, hU]; rfl)
  rw [← hD]
  clear hD hS hG hU
  cases S with
  | true =>
    have HE : Hid (D = true) := Lib.hid (by rw [HD.out]; rfl)
    go_enter Tryd.func44, Tryd.ntmps44
    go_wp2_with (first | (go_at_call 30; refine (hcall _).mono ?_; rintro e w1 ⟨rfl, rfl⟩) | (go_at_call 32; refine (hcall2 _).mono ?_; rintro e w1 ⟨rfl, rfl⟩))
    all_goals
      go_ret
      rw [HE.out]
      exact ⟨rfl, Below.refl _ _⟩
  | false =>
    cases G with
    | true =>
      have HE : Hid (D = true) := Lib.hid (by rw [HD.out]; rfl)
      go_enter Tryd.func44, Tryd.ntmps44
      go_wp2_with (first | (go_at_call 30; refine (hcall _).mono ?_; rintro e w1 ⟨rfl, rfl⟩) | (go_at_call 32; refine (hcall2 _).mono ?_; rintro e w1 ⟨rfl, rfl⟩))
      all_goals
        go_ret
        rw [HE.out]
        exact ⟨rfl, Below.refl _ _⟩
    | false =>
      have HE : Hid (D = U) := Lib.hid (by rw [HD.out]; cases U <;> rfl)
      clear HD
      go_enter Tryd.func44, Tryd.ntmps44
      go_wp2_with (first | (go_at_call 30; refine (hcall _).mono ?_; rintro e w1 ⟨rfl, rfl⟩) | (go_at_call 32; refine (hcall2 _).mono ?_; rintro e w1 ⟨rfl, rfl⟩))
      all_goals
        go_ret
        rw [HE.out]
        exact ⟨rfl, Below.refl _ _⟩

theorem entersD : Enters 32 := ⟨_, Tryd.func32, by kernel_rfl, by kernel_rfl⟩
theorem entersW : Enters 44 := ⟨_, Tryd.func44, by kernel_rfl, by kernel_rfl⟩

theorem cls_digit (w : World) (B : Nat) : Cls w B 32 #[] isDg := ⟨entersD, fun w' _ c => (pDigit_any w' c).mono fun e w2 ⟨h1, h2⟩ => ⟨h1, by subst h2; exact Below.refl _ _⟩⟩
theorem cls_name (w : World) (B : Nat) : Cls w B 44 #[] isNm := ⟨entersW, fun w' _ c => pName_any w' c⟩

theorem run_row : ∀ l : List UInt8, runL isDg l = rowF false l := by
  intro l
  induction l with
  | nil => rfl
  | cons c r ih =>
    have e1 : runL isDg (c :: r) = if isDg c then runL isDg r + 1 else 0 := rfl
    have e2 : rowF false (c :: r) = if isDg c || (false && (isSm c || decide ((c.toNat : Int) = 95))) then rowF false r + 1 else 0 := rfl
    rw [e1, e2, ih, Bool.false_and, Bool.or_false]

theorem run_nrow : ∀ l : List UInt8, runL isNm l = rowF true l := by
  intro l
  induction l with
  | nil => rfl
  | cons c r ih =>
    have e1 : runL isNm (c :: r) = if isNm c then runL isNm r + 1 else 0 := rfl
    have e2 : rowF true (c :: r) = if isDg c || (true && (isSm c || decide ((c.toNat : Int) = 95))) then rowF true r + 1 else 0 := rfl
    have e3 : (isDg c || (true && (isSm c || decide ((c.toNat : Int) = 95)))) = isNm c := by
      unfold isNm
      cases isDg c <;> cases isSm c <;> rfl
    rw [e1, e2, e3, ih]

set_option maxRecDepth 100000 in
set_option maxHeartbeats 800000 in
theorem pRun_any (w : World) (B : Nat) (k : FuncId) (cs : Array Value) (p : UInt8 → Bool) (s : ByteArray) (h : Cls w B k cs p) (hB : B ≤ w.heap.size) (hs : (s.size : Int) ≤ 1000000) :
    Calls Tryd.prog 43 #[.string s, .func (.func k) #[] cs] w fun e w' => e = .returned (.int .i64 (runL p s.data.toList : Int)) ∧ Below w.heap.size w w' := by
  have H := Lib.hid h
  have hk := h.1.run
  clear h
  go_enter Tryd.func43, Tryd.ntmps43
  go_wp2_with fail
  go_loopw [8] (fun i wr => ∃ j : Nat, j ≤ s.size ∧ i = .int .i64 j ∧ Below w.heap.size w wr ∧ Hid (∀ m, m < j → p (s.data.toList[m]?.getD 0) = true)) (fun i _ => s.size - (intOf i).toNat)
  case atStart => exact ⟨0, Nat.zero_le _, rfl, Below.refl _ _, Lib.hid (fun m hm => absurd hm (by omega))⟩
  case round =>
    obtain ⟨j, hj, rfl, hb, hall⟩ := hrel
    by_cases hlt : j < s.size
    · go_wp2_with fail
      refine (H.out.2 wr (hb.mono hB) s[j]).mono ?_
      rintro e w2 ⟨rfl, hb2⟩
      have hb3 := hb.trans (hb2.mono hb.size)
      clear hb2
      by_cases hp : p s[j] = true
      · go_wp2_with fail
        go_roundw
        case rel =>
          refine ⟨j + 1, by omega, by go_num, hb3, Lib.hid (fun m hm => ?_)⟩
          by_cases e : m = j
          · subst e; rw [byte_at s m hlt]; exact hp
          · exact hall.out m (by omega)
        case measure => simp [intOf]; omega
      · rw [Bool.not_eq_true] at hp
        go_wp2_with fail
        go_ret
        exact ⟨ret_int (by rw [run_stop s p j hlt hall.out hp]), hb3⟩
    · go_wp2_with fail
      go_ret
      exact ⟨ret_int (by rw [run_end s p fun m hm => hall.out m (by omega)]), hb⟩

/-- what a backslash stands for with the byte behind it -/
def escL (l : List UInt8) : UInt8 × Bool := match l with
  | [] => (0, false)
  | d :: _ => if (d.toNat : Int) = 110 then (10, true) else if (d.toNat : Int) = 34 ∨ (d.toNat : Int) = 92 then (d, true) else (0, false)
def escV (x : UInt8 × Bool) : Value := .tuple #[.int .u8 (x.1.toNat : Int), .bool x.2]

theorem esc_ret {x : UInt8 × Bool} {k : Int} {b : Bool} (c : UInt8) (h : x = (c, b)) (hk : k = (c.toNat : Int)) : Ending.returned (.tuple #[.int .u8 k, .bool b]) = .returned (escV x) := by rw [h, hk]; rfl

set_option maxRecDepth 100000 in
set_option maxHeartbeats 1600000 in
theorem pEsc_any (w : World) (s : ByteArray) : Calls Tryd.prog 49 #[.string s] w fun e w' => e = .returned (escV (escL s.data.toList)) ∧ w = w' := by
  obtain ⟨X, hX⟩ : ∃ X, X = escL s.data.toList := ⟨_, rfl⟩
  have HX := Lib.hid hX
  rw [← hX]
  clear hX
  by_cases h0 : s.size = 0
  · have hl : s.data.toList = [] := List.eq_nil_of_length_eq_zero (by rw [Array.length_toList]; exact h0)
    have HE : Hid (X = (0, false)) := Lib.hid (by rw [HX.out, hl]; rfl)
    have t0 : (s.toList == []) = true := by rw [Lib.toList_data, hl]; rfl
    have t1 : s.toList.isEmpty = true := by rw [Lib.toList_data, hl]; rfl
    have t2 : s.toList = [] := by rw [Lib.toList_data, hl]
    clear hl h0
    go_enter Tryd.func49, Tryd.ntmps49
    go_wp2_with fail
    go_ret2
    exact ⟨esc_ret 0 HE.out rfl, rfl⟩
  · have h1 : 0 < s.size := by omega
    have hd := drop_at h1
    rw [List.drop_zero] at hd
    have HL := Lib.hid hd
    have hne : s.toList ≠ [] := by rw [Lib.toList_data, hd]; exact List.cons_ne_nil _ _
    have t0 : (s.toList == []) = false := beq_eq_false_iff_ne.2 hne
    have t1 : s.toList.isEmpty = false := by rw [Lib.toList_data, hd]; rfl
    clear h0 hd
    by_cases h110 : (s[0].toNat : Int) = 110
    · have HE : Hid (X = (10, true)) := Lib.hid (by rw [HX.out, HL.out]; exact if_pos h110)
      have t : ((s[0].toNat : Int) == 110) = true := by simpa using h110
      clear h110
      go_enter Tryd.func49, Tryd.ntmps49
      go_wp2_with fail
      go_ret2
      exact ⟨esc_ret 10 HE.out rfl, rfl⟩
    · have t : ((s[0].toNat : Int) == 110) = false := by simpa using h110
      by_cases h34 : (s[0].toNat : Int) = 34
      · have HE : Hid (X = (s[0], true)) := Lib.hid (by rw [HX.out, HL.out]; exact (if_neg h110).trans (if_pos (.inl h34)))
        have t2 : ((s[0].toNat : Int) == 34) = true := by simpa using h34
        clear h110 h34
        go_enter Tryd.func49, Tryd.ntmps49
        go_wp2_with fail
        go_ret2
        exact ⟨esc_ret s[0] HE.out rfl, rfl⟩
      · have t2 : ((s[0].toNat : Int) == 34) = false := by simpa using h34
        by_cases h92 : (s[0].toNat : Int) = 92
        · have HE : Hid (X = (s[0], true)) := Lib.hid (by rw [HX.out, HL.out]; exact (if_neg h110).trans (if_pos (.inr h92)))
          have t3 : ((s[0].toNat : Int) == 92) = true := by simpa using h92
          clear h110 h34 h92
          go_enter Tryd.func49, Tryd.ntmps49
          go_wp2_with fail
          go_ret2
          exact ⟨esc_ret s[0] HE.out rfl, rfl⟩
        · have HE : Hid (X = (0, false)) := Lib.hid (by rw [HX.out, HL.out]; exact (if_neg h110).trans (if_neg (by rintro (h | h); exact h34 h; exact h92 h)))
          have t3 : ((s[0].toNat : Int) == 92) = false := by simpa using h92
          clear h110 h34 h92
          go_enter Tryd.func49, Tryd.ntmps49
          go_wp2_with fail
          go_ret2
          exact ⟨esc_ret 0 HE.out rfl, rfl⟩

end Go.Proofs.YtahpfbmaaccejaaDoor
