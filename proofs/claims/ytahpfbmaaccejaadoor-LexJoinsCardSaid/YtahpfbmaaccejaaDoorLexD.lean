/- Contracts of the references' row, form, Number (of digits), number, sign. -/
import Derived.Test.YtahpfbmaaccejaaDoorLexC
namespace Go.Proofs.YtahpfbmaaccejaaDoor
open Go.RowKit

theorem int_ret9 {a b : Int} (h : a = b) : Ending.returned (.int .i64 a) = .returned (.int .i64 b) := by rw [h]
theorem byte_at9 (s : ByteArray) (j : Nat) (h : j < s.size) : s.data.toList[j]?.getD 0 = s[j] := by
  have e : s.data.toList[j]? = some s[j] := by
    rw [Array.getElem?_toList, Array.getElem?_eq_getElem (by exact h)]; rfl
  rw [e]; rfl

theorem rowF_on {nm : Bool} {c : UInt8} {r : List UInt8} (h : (isDg c || (nm && (isSm c || decide ((c.toNat : Int) = 95)))) = true) : rowF nm (c :: r) = rowF nm r + 1 := by
  conv => lhs; unfold rowF
  rw [if_pos h]
theorem rowF_end {nm : Bool} {c : UInt8} {r : List UInt8} (h : (isDg c || (nm && (isSm c || decide ((c.toNat : Int) = 95)))) = false) : rowF nm (c :: r) = 0 := by
  unfold rowF
  rw [if_neg (by rw [h]; decide)]

set_option maxRecDepth 100000 in
set_option maxHeartbeats 6400000 in
theorem r9row_any (w : World) (s : ByteArray) (i : Nat) (nm : Bool) (hi : i ≤ s.size) (hs : (s.size : Int) ≤ 100000) :
    Calls Tryd.prog 39 #[.string s, .int .i64 i, .bool nm] w fun e w' => e = .returned (.int .i64 ((i + rowF nm (s.data.toList.drop i) : Nat) : Int)) ∧ w = w' := by
  obtain ⟨R, hR⟩ : ∃ R, R = i + rowF nm (s.data.toList.drop i) := ⟨_, rfl⟩
  have HR0 := Lib.hid hR
  rw [← hR]
  clear hR
  have hl : s.data.toList.length = s.size := by rw [Array.length_toList]; rfl
  have HL := Lib.hid hl
  clear hl
  go_enter Tryd.func39, Tryd.ntmps39
  go_wp2_with fail
  go_loopw [1] (fun vi wr => ∃ k : Nat, k ≤ s.size ∧ vi = .int .i64 k ∧ Hid (w = wr) ∧ Hid (R = k + rowF nm (s.data.toList.drop k))) (fun vi _ => s.size - (intOf vi).toNat)
  case atStart => exact ⟨i, hi, rfl, Lib.hid rfl, HR0⟩
  case round =>
    clear HR0
    obtain ⟨k, hk, rfl, HW, HR⟩ := hrel
    have hw := HW.out
    subst hw
    clear HW
    by_cases hlt : k < s.size
    · have HD : Hid (R = k + rowF nm (s[k] :: s.data.toList.drop (k + 1))) := Lib.hid (by rw [HR.out, drop_at hlt])
      have hcl := s[k].toNat_lt
      clear HR
      cases hd : isDg s[k] with
      | true =>
        have HE : Hid (R = k + 1 + rowF nm (s.data.toList.drop (k + 1))) := Lib.hid (by rw [HD.out, rowF_on (by rw [hd]; rfl)]; omega)
        have HDG := Lib.hid hd
        clear hd HD
        go_wp2_with fail
        refine (r9digit_any w s[k]).mono ?_
        rintro e w1 ⟨rfl, rfl⟩
        rw [HDG.out]
        go_wp2_with fail
        go_roundw
        case rel => exact ⟨k + 1, by omega, by go_num, Lib.hid (by trivial), HE⟩
        case measure => simp [intOf]; omega
      | false =>
        have HDG := Lib.hid hd
        cases nm with
        | false =>
          have HE : Hid (R = k) := Lib.hid (by rw [HD.out, rowF_end (by rw [hd]; rfl), Nat.add_zero])
          clear hd HD
          go_wp2_with fail
          refine (r9digit_any w s[k]).mono ?_
          rintro e w1 ⟨rfl, rfl⟩
          rw [HDG.out]
          go_wp2_with fail
          go_ret
          exact ⟨int_ret9 (by rw [HE.out]), rfl⟩
        | true =>
          cases hsm : isSm s[k] with
          | true =>
            have HE : Hid (R = k + 1 + rowF true (s.data.toList.drop (k + 1))) := Lib.hid (by rw [HD.out, rowF_on (by rw [hd, hsm]; rfl)]; omega)
            have HSM := Lib.hid hsm
            clear hd hsm HD
            go_wp2_with fail
            refine (r9digit_any w s[k]).mono ?_
            rintro e w1 ⟨rfl, rfl⟩
            rw [HDG.out]
            go_wp2_with fail
            refine (r9small_any w s[k]).mono ?_
            rintro e w1 ⟨rfl, rfl⟩
            rw [HSM.out]
            go_wp2_with fail
            go_roundw
            case rel => exact ⟨k + 1, by omega, by go_num, Lib.hid (by trivial), HE⟩
            case measure => simp [intOf]; omega
          | false =>
            have HSM := Lib.hid hsm
            by_cases h95 : (s[k].toNat : Int) = 95
            · have t95 : ((s[k].toNat : Int) == 95) = true := by simpa using h95
              have HE : Hid (R = k + 1 + rowF true (s.data.toList.drop (k + 1))) := Lib.hid (by rw [HD.out, rowF_on (by rw [hd, hsm, decide_eq_true h95]; rfl)]; omega)
              clear hd hsm HD h95
              go_wp2_with fail
              refine (r9digit_any w s[k]).mono ?_
              rintro e w1 ⟨rfl, rfl⟩
              rw [HDG.out]
              go_wp2_with fail
              refine (r9small_any w s[k]).mono ?_
              rintro e w1 ⟨rfl, rfl⟩
              rw [HSM.out]
              go_wp2_with fail
              go_roundw
              case rel => exact ⟨k + 1, by omega, by go_num, Lib.hid (by trivial), HE⟩
              case measure => simp [intOf]; omega
            · have t95 : ((s[k].toNat : Int) == 95) = false := by simpa using h95
              have HE : Hid (R = k) := Lib.hid (by rw [HD.out, rowF_end (by rw [hd, hsm, decide_eq_false h95]; rfl), Nat.add_zero])
              clear hd hsm HD h95
              go_wp2_with fail
              refine (r9digit_any w s[k]).mono ?_
              rintro e w1 ⟨rfl, rfl⟩
              rw [HDG.out]
              go_wp2_with fail
              refine (r9small_any w s[k]).mono ?_
              rintro e w1 ⟨rfl, rfl⟩
              rw [HSM.out]
              go_wp2_with fail
              go_ret
              exact ⟨int_ret9 (by rw [HE.out]), rfl⟩
    · have HE : Hid (R = k) := Lib.hid (by rw [HR.out, List.drop_of_length_le (by rw [HL.out]; omega)]; rfl)
      go_wp2_with fail
      go_ret
      exact ⟨int_ret9 (by rw [HE.out]), rfl⟩

set_option maxRecDepth 100000 in
set_option maxHeartbeats 3200000 in
theorem r1form_any (w : World) (s : ByteArray) (hd : ∀ (j : Nat) (h : j < s.size), isDg s[j] = true) (h0 : 0 < s.size) (hz : s.size = 1 ∨ (s[0].toNat : Int) ≠ 48) (hs : (s.size : Int) ≤ 100000) :
    Calls Tryd.prog 62 #[.string s] w fun e w' => e = .returned (.bool true) ∧ w = w' := by
  have HDG := Lib.hid hd
  have h1 : (s.size : Int) = 1 ∨ ((1 : Int) < s.size ∧ ((s[0].toNat : Int) == 48) = false) := by
    by_cases hq : s.size = 1
    · exact .inl (by omega)
    · refine .inr ⟨by omega, ?_⟩
      rw [beq_eq_false_iff_ne]
      rcases hz with hz | hz
      · exact absurd hz hq
      · exact hz
  have h0i : ((s.size : Int) == 0) = false := by rw [beq_eq_false_iff_ne]; omega
  clear hz hd
  go_enter Tryd.func62, Tryd.ntmps62
  rcases h1 with h1 | ⟨h1, h2⟩
  all_goals
    go_wp2_with fail
    go_loopw [3] (fun vi wr => ∃ k : Nat, k ≤ s.size ∧ vi = .int .i64 k ∧ Hid (w = wr)) (fun vi _ => s.size - (intOf vi).toNat)
    case atStart => exact ⟨0, Nat.zero_le _, rfl, Lib.hid rfl⟩
    case round =>
      obtain ⟨k, hk, rfl, HW⟩ := hrel
      have hw := HW.out
      subst hw
      clear HW
      by_cases hlt : k < s.size
      · have hdk := HDG.out k hlt
        have b1 : ¬ (s[k].toNat : Int) < 48 := by simp [isDg] at hdk; omega
        have b2 : ¬ (57 : Int) < (s[k].toNat : Int) := by simp [isDg] at hdk; omega
        clear hdk
        go_wp2_with fail
        go_roundw
        case rel => exact ⟨k + 1, by omega, by go_num, Lib.hid (by trivial)⟩
        case measure => simp [intOf]; omega
      · go_wp2_with fail
        go_ret
        exact ⟨rfl, rfl⟩

theorem numF_ge : ∀ (r : List UInt8) (n : Nat), n ≤ numF n r := by
  intro r
  induction r with
  | nil => intro n; exact Nat.le_refl _
  | cons c r ih =>
    intro n
    have := ih (10 * n + (c.toNat - 48))
    show n ≤ numF (10 * n + (c.toNat - 48)) r
    omega

/-- what Number hands back for digits -/
def numV (N : Nat) : Value := .tuple #[.int .u64 ((if 32767 < N then 0 else N : Nat) : Int), .int .i64 (if 32767 < N then 5 else 0)]

theorem numV_big {N : Nat} (h : 32767 < N) : Value.tuple #[.int .u64 0, .int .i64 5] = numV N := by unfold numV; rw [if_pos h, if_pos h]; rfl
theorem numV_ok {N n : Nat} (h : N = n) (hn : n ≤ 32767) : Value.tuple #[.int .u64 (n : Int), .int .i64 0] = numV N := by unfold numV; rw [h, if_neg (by omega), if_neg (by omega)]

set_option maxRecDepth 100000 in
set_option maxHeartbeats 6400000 in
theorem r1number_any (w : World) (s : ByteArray) (hd : ∀ (j : Nat) (h : j < s.size), isDg s[j] = true) (h0 : 0 < s.size) (hz : s.size = 1 ∨ (s[0].toNat : Int) ≠ 48) (hs : (s.size : Int) ≤ 100000) :
    Calls Tryd.prog 52 #[.string s, .int .u64 32767] w fun e w' => e = .returned (numV (numL s.data.toList)) ∧ w = w' := by
  have HDG := Lib.hid hd
  have hl : s.data.toList.length = s.size := by rw [Array.length_toList]; rfl
  have HL := Lib.hid hl
  have HN0 : Hid (numL s.data.toList = numF 0 (s.data.toList.drop 0)) := Lib.hid rfl
  obtain ⟨N, hN⟩ : ∃ N, N = numL s.data.toList := ⟨_, rfl⟩
  rw [← hN] at HN0 ⊢
  have HF : Hid (s.size = 1 ∨ (s[0].toNat : Int) ≠ 48) := Lib.hid hz
  clear hd hl hz hN
  go_enter Tryd.func52, Tryd.ntmps52
  go_wp2_with fail
  refine (r1form_any w s HDG.out h0 HF.out hs).mono ?_
  rintro e w1 ⟨rfl, rfl⟩
  go_wp2_with fail
  go_loopw [6, 7] (fun vn vi wr => ∃ (k n : Nat), k ≤ s.size ∧ n ≤ 32767 ∧ vi = .int .i64 k ∧ vn = .int .u64 n ∧ Hid (w = wr) ∧ Hid (N = numF n (s.data.toList.drop k))) (fun _ vi _ => s.size - (intOf vi).toNat)
  case atStart => exact ⟨0, 0, Nat.zero_le _, Nat.zero_le _, rfl, rfl, Lib.hid rfl, HN0⟩
  case round =>
    clear HN0
    obtain ⟨k, n, hk, hn, rfl, rfl, HW, HN⟩ := hrel
    have hw := HW.out
    subst hw
    clear HW
    by_cases hlt : k < s.size
    · have hdk := HDG.out k hlt
      have HD : Hid (N = numF (10 * n + (s[k].toNat - 48)) (s.data.toList.drop (k + 1))) := Lib.hid (by rw [HN.out, drop_at hlt]; rfl)
      have hcl := s[k].toNat_lt
      obtain ⟨d, hdd⟩ : ∃ d : Nat, d = s[k].toNat - 48 := ⟨_, rfl⟩
      have hb : (s[k].toNat : Int) = (d : Int) + 48 ∧ d ≤ 9 := by simp [isDg] at hdk; omega
      obtain ⟨hb1, hb2⟩ := hb
      rw [← hdd] at HD
      have hw8 : IntKind.u8.wrap ((s[k].toNat : Int) - 48) = (d : Int) := by
        rw [hb1, Int.add_sub_cancel]
        exact IntWalk.u8_in _ (by omega)
      clear hdk hdd HN
      by_cases hbig : 32767 < 10 * n + d
      · have HBG : Hid (32767 < N) := Lib.hid (by
          have := numF_ge (s.data.toList.drop (k + 1)) (10 * n + d)
          rw [HD.out]
          omega)
        by_cases hq : (3276 : Int) < n
        · clear HD
          go_wp2_with fail
          go_ret2
          exact ⟨congrArg Ending.returned (numV_big HBG.out), rfl⟩
        · have hq2 : (32767 : Int) - d < 10 * n := by omega
          clear HD
          go_wp2_with fail
          go_ret2
          exact ⟨congrArg Ending.returned (numV_big HBG.out), rfl⟩
      · have hq : ¬ (3276 : Int) < n := by omega
        have hq2 : ¬ (32767 : Int) - d < 10 * n := by omega
        have hq3 : ¬ (32767 : Int) < d := by omega
        go_wp2_with fail
        go_roundw
        case rel => exact ⟨k + 1, 10 * n + d, by omega, by omega, by go_num, by go_num, Lib.hid (by trivial), HD⟩
        case measure => simp [intOf]; omega
    · have HE : Hid (N = n) := Lib.hid (by rw [HN.out, List.drop_of_length_le (by rw [HL.out]; omega)]; rfl)
      go_wp2_with fail
      go_ret2
      exact ⟨congrArg Ending.returned (numV_ok HE.out hn), rfl⟩

end Go.Proofs.YtahpfbmaaccejaaDoor
