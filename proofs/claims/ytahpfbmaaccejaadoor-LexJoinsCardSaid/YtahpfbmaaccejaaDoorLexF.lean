/- Contract of the reference's sign. -/
import Derived.Test.YtahpfbmaaccejaaDoorLexE
namespace Go.Proofs.YtahpfbmaaccejaaDoor
open Go.RowKit

theorem below_drewN9 {a w : World} {B : Nat} (h : Below B a w) (n : Nat) : Below B a (w.drewN n) := ⟨h.os, h.tape, h.output, h.size, h.block⟩

theorem ext_two {s : ByteArray} {i : Nat} (h : i + 1 < s.size) : (s.extract i (i + 2)).toList = [s[i], s[i + 1]] := by
  rw [ByteArray.toList_eq, ext_list, drop_at (by omega), drop_at h]
  rfl

theorem sg_at {k : Nat} (h : k < 16) : signs1[k]?.getD 0 = ((⟨#[40, 41, 123, 125, 44, 59, 46, 124, 47, 43, 45, 42, 37, 61, 60, 62]⟩ : ByteArray)[k]'(by exact h)) := byte_at9 (⟨#[40, 41, 123, 125, 44, 59, 46, 124, 47, 43, 45, 42, 37, 61, 60, 62]⟩ : ByteArray) k h

theorem signs_no {c : UInt8} (h : ∀ m, m < 16 → signs1[m]?.getD 0 ≠ c) : c ∉ signs1 := fun hc => by
  obtain ⟨m, hm, e⟩ := List.getElem_of_mem hc
  have hm' : m < 16 := hm
  exact h m hm' (by rw [List.getElem?_eq_getElem hm]; exact e)

theorem signs_in {c : UInt8} {k : Nat} (hk : k < 16) (h : signs1[k]?.getD 0 = c) : c ∈ signs1 := by
  have hk' : k < signs1.length := hk
  rw [List.getElem?_eq_getElem hk'] at h
  rw [← h]
  exact List.getElem_mem hk'

theorem sign_two {c d : UInt8} {r : List UInt8} (h : [c, d] = [61, 61] ∨ [c, d] = [33, 61] ∨ [c, d] = [60, 61] ∨ [c, d] = [62, 61]) : signL (c :: d :: r) = 2 := if_pos h
theorem sign_one {c : UInt8} {r : List UInt8} (h : ¬ ((c :: r).take 2 = [61, 61] ∨ (c :: r).take 2 = [33, 61] ∨ (c :: r).take 2 = [60, 61] ∨ (c :: r).take 2 = [62, 61])) (h2 : c ∈ signs1) : signL (c :: r) = 1 := (if_neg h).trans (if_pos h2)
theorem sign_none {c : UInt8} {r : List UInt8} (h : ¬ ((c :: r).take 2 = [61, 61] ∨ (c :: r).take 2 = [33, 61] ∨ (c :: r).take 2 = [60, 61] ∨ (c :: r).take 2 = [62, 61])) (h2 : c ∉ signs1) : signL (c :: r) = 0 := (if_neg h).trans (if_neg h2)

set_option maxRecDepth 100000 in
set_option maxHeartbeats 6400000 in
theorem r9sign_any (w : World) (s : ByteArray) (i : Nat) (hi : i < s.size) (hs : (s.size : Int) ≤ 100000) :
    Calls Tryd.prog 42 #[.string s, .int .i64 i] w fun e w' => e = .returned (.int .i64 (signL (s.data.toList.drop i) : Nat)) ∧ Below w.heap.size w w' := by
  have HD := Lib.hid (drop_at hi)
  obtain ⟨S, hS⟩ : ∃ S, S = signL (s.data.toList.drop i) := ⟨_, rfl⟩
  rw [← hS]
  have HS : Hid (S = signL (s[i] :: s.data.toList.drop (i + 1))) := Lib.hid (by rw [hS, HD.out])
  clear hS HD
  have hcl := s[i].toNat_lt
  by_cases h1 : i + 1 < s.size
  · have h1i : (i : Int) + 1 < s.size := by omega
    have E2 := ext_two h1
    have HD1 := Lib.hid (drop_at h1)
    have HTK : Hid ((s[i] :: s.data.toList.drop (i + 1)).take 2 = [s[i], s[i + 1]]) := Lib.hid (by rw [HD1.out]; rfl)
    by_cases hp : (s.extract i (i + 2)).toList = [61, 61] ∨ (s.extract i (i + 2)).toList = [33, 61] ∨ (s.extract i (i + 2)).toList = [60, 61] ∨ (s.extract i (i + 2)).toList = [62, 61]
    · have HE : Hid (S = 2) := Lib.hid (by rw [HS.out, HD1.out]; exact sign_two (by rw [← E2]; exact hp))
      clear E2
      have h9 : ((s.extract i (i + 2)).toList = [61, 61]) ∨ (¬ (s.extract i (i + 2)).toList = [61, 61] ∧ (s.extract i (i + 2)).toList = [33, 61]) ∨ (¬ (s.extract i (i + 2)).toList = [61, 61] ∧ ¬ (s.extract i (i + 2)).toList = [33, 61] ∧ (s.extract i (i + 2)).toList = [60, 61]) ∨ (¬ (s.extract i (i + 2)).toList = [61, 61] ∧ ¬ (s.extract i (i + 2)).toList = [33, 61] ∧ ¬ (s.extract i (i + 2)).toList = [60, 61] ∧ (s.extract i (i + 2)).toList = [62, 61]) := by
        rcases hp with h | h | h | h
        · exact .inl h
        · exact .inr (.inl ⟨by rw [h]; decide, h⟩)
        · exact .inr (.inr (.inl ⟨by rw [h]; decide, by rw [h]; decide, h⟩))
        · exact .inr (.inr (.inr ⟨by rw [h]; decide, by rw [h]; decide, by rw [h]; decide, h⟩))
      clear hp
      rcases h9 with p1 | ⟨p1, p2⟩ | ⟨p1, p2, p3⟩ | ⟨p1, p2, p3, p4⟩
      all_goals
        go_enter Tryd.func42, Tryd.ntmps42
        go_wp2_with fail
        go_ret
        exact ⟨int_ret9 (by rw [HE.out]; rfl), Below.refl _ _⟩
    · have HNP : Hid (¬ ((s[i] :: s.data.toList.drop (i + 1)).take 2 = [61, 61] ∨ (s[i] :: s.data.toList.drop (i + 1)).take 2 = [33, 61] ∨ (s[i] :: s.data.toList.drop (i + 1)).take 2 = [60, 61] ∨ (s[i] :: s.data.toList.drop (i + 1)).take 2 = [62, 61])) := Lib.hid (by rw [HTK.out, ← E2]; exact hp)
      have p1 : ((s.extract i (i + 2)).toList == [61, 61]) = false := beq_eq_false_iff_ne.2 fun h => hp (.inl h)
      have p2 : ((s.extract i (i + 2)).toList == [33, 61]) = false := beq_eq_false_iff_ne.2 fun h => hp (.inr (.inl h))
      have p3 : ((s.extract i (i + 2)).toList == [60, 61]) = false := beq_eq_false_iff_ne.2 fun h => hp (.inr (.inr (.inl h)))
      have p4 : ((s.extract i (i + 2)).toList == [62, 61]) = false := beq_eq_false_iff_ne.2 fun h => hp (.inr (.inr (.inr h)))
      clear hp E2 HTK HD1
      go_enter Tryd.func42, Tryd.ntmps42
      go_wp2_with fail
      go_loopw [7] (fun vk wr => ∃ k : Nat, k ≤ 16 ∧ vk = .int .i64 k ∧ Hid (Below w.heap.size w wr) ∧ Hid (∀ m, m < k → signs1[m]?.getD 0 ≠ s[i])) (fun vk _ => 16 - (intOf vk).toNat)
      case atStart => exact ⟨0, Nat.zero_le _, rfl, Lib.hid (Below.refl _ _), Lib.hid (fun m hm => absurd hm (by omega))⟩
      case round =>
        obtain ⟨k, hk, rfl, HB, HA⟩ := hrel
        by_cases hlt : k < 16
        · have hsz : (⟨#[40, 41, 123, 125, 44, 59, 46, 124, 47, 43, 45, 42, 37, 61, 60, 62]⟩ : ByteArray).size = 16 := rfl
          have hat := sg_at hlt
          have HBD : ∀ q, Hid (Below w.heap.size w (wr.drewN q)) := fun q => Lib.hid (below_drewN9 HB.out q)
          by_cases h : signs1[k]?.getD 0 = s[i]
          · have hb : ((((⟨#[40, 41, 123, 125, 44, 59, 46, 124, 47, 43, 45, 42, 37, 61, 60, 62]⟩ : ByteArray)[k]'(by rw [hsz]; exact hlt)).toNat : Int) == (s[i].toNat : Int)) = true := by
              rw [beq_iff_eq, ← hat]
              exact congrArg (fun x : UInt8 => (x.toNat : Int)) h
            have HE : Hid (S = 1) := Lib.hid (by rw [HS.out]; exact sign_one HNP.out (signs_in hlt h))
            clear hat h
            go_wp2_with fail
            go_quiet (fail)
            go_wp2_with fail
            go_ret
            exact ⟨int_ret9 (by rw [HE.out]; rfl), (HBD _).out⟩
          · have hb : ((((⟨#[40, 41, 123, 125, 44, 59, 46, 124, 47, 43, 45, 42, 37, 61, 60, 62]⟩ : ByteArray)[k]'(by rw [hsz]; exact hlt)).toNat : Int) == (s[i].toNat : Int)) = false := by
              rw [beq_eq_false_iff_ne, ← hat]
              intro e
              exact h (UInt8.toNat_inj.1 (Int.ofNat_inj.1 e))
            have HM : Hid (∀ m, m < k + 1 → signs1[m]?.getD 0 ≠ s[i]) := Lib.hid (fun m hm => by
              by_cases e : m = k
              · subst e; exact h
              · exact HA.out m (by omega))
            clear hat h HA
            go_wp2_with fail
            go_quiet (fail)
            go_wp2_with fail
            go_roundw
            case rel => exact ⟨k + 1, by omega, by go_num, HBD _, HM⟩
            case measure => simp [intOf]; omega
        · obtain rfl : k = 16 := by omega
          have HE : Hid (S = 0) := Lib.hid (by rw [HS.out]; exact sign_none HNP.out (signs_no HA.out))
          go_wp2_with fail
          go_ret
          exact ⟨int_ret9 (by rw [HE.out]; rfl), HB.out⟩
  · have h1i : ¬ (i : Int) + 1 < s.size := by omega
    have HNP : Hid (¬ ((s[i] :: s.data.toList.drop (i + 1)).take 2 = [61, 61] ∨ (s[i] :: s.data.toList.drop (i + 1)).take 2 = [33, 61] ∨ (s[i] :: s.data.toList.drop (i + 1)).take 2 = [60, 61] ∨ (s[i] :: s.data.toList.drop (i + 1)).take 2 = [62, 61])) := Lib.hid (by
      rw [List.drop_of_length_le (by rw [Array.length_toList]; show s.size ≤ i + 1; omega)]
      show ¬ ([s[i]] = [61, 61] ∨ [s[i]] = [33, 61] ∨ [s[i]] = [60, 61] ∨ [s[i]] = [62, 61])
      simp)
    clear h1
    go_enter Tryd.func42, Tryd.ntmps42
    go_wp2_with fail
    go_loopw [7] (fun vk wr => ∃ k : Nat, k ≤ 16 ∧ vk = .int .i64 k ∧ Hid (Below w.heap.size w wr) ∧ Hid (∀ m, m < k → signs1[m]?.getD 0 ≠ s[i])) (fun vk _ => 16 - (intOf vk).toNat)
    case atStart => exact ⟨0, Nat.zero_le _, rfl, Lib.hid (Below.refl _ _), Lib.hid (fun m hm => absurd hm (by omega))⟩
    case round =>
      obtain ⟨k, hk, rfl, HB, HA⟩ := hrel
      by_cases hlt : k < 16
      · have hsz : (⟨#[40, 41, 123, 125, 44, 59, 46, 124, 47, 43, 45, 42, 37, 61, 60, 62]⟩ : ByteArray).size = 16 := rfl
        have hat := sg_at hlt
        have HBD : ∀ q, Hid (Below w.heap.size w (wr.drewN q)) := fun q => Lib.hid (below_drewN9 HB.out q)
        by_cases h : signs1[k]?.getD 0 = s[i]
        · have hb : ((((⟨#[40, 41, 123, 125, 44, 59, 46, 124, 47, 43, 45, 42, 37, 61, 60, 62]⟩ : ByteArray)[k]'(by rw [hsz]; exact hlt)).toNat : Int) == (s[i].toNat : Int)) = true := by
            rw [beq_iff_eq, ← hat]
            exact congrArg (fun x : UInt8 => (x.toNat : Int)) h
          have HE : Hid (S = 1) := Lib.hid (by rw [HS.out]; exact sign_one HNP.out (signs_in hlt h))
          clear hat h
          go_wp2_with fail
          go_quiet (fail)
          go_wp2_with fail
          go_ret
          exact ⟨int_ret9 (by rw [HE.out]; rfl), (HBD _).out⟩
        · have hb : ((((⟨#[40, 41, 123, 125, 44, 59, 46, 124, 47, 43, 45, 42, 37, 61, 60, 62]⟩ : ByteArray)[k]'(by rw [hsz]; exact hlt)).toNat : Int) == (s[i].toNat : Int)) = false := by
            rw [beq_eq_false_iff_ne, ← hat]
            intro e
            exact h (UInt8.toNat_inj.1 (Int.ofNat_inj.1 e))
          have HM : Hid (∀ m, m < k + 1 → signs1[m]?.getD 0 ≠ s[i]) := Lib.hid (fun m hm => by
            by_cases e : m = k
            · subst e; exact h
            · exact HA.out m (by omega))
          clear hat h HA
          go_wp2_with fail
          go_quiet (fail)
          go_wp2_with fail
          go_roundw
          case rel => exact ⟨k + 1, by omega, by go_num, HBD _, HM⟩
          case measure => simp [intOf]; omega
      · obtain rfl : k = 16 := by omega
        have HE : Hid (S = 0) := Lib.hid (by rw [HS.out]; exact sign_none HNP.out (signs_no HA.out))
        go_wp2_with fail
        go_ret
        exact ⟨int_ret9 (by rw [HE.out]; rfl), HB.out⟩

end Go.Proofs.YtahpfbmaaccejaaDoor
