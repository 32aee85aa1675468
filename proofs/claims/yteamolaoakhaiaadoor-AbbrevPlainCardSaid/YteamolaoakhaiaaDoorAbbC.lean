/- Contracts of layer 7's reference: Fits. -/
import Derived.Test.YteamolaoakhaiaaDoorAbbR
import Derived.Test.YteamolaoakhaiaaDoorStrA
namespace Go.Proofs.YteamolaoakhaiaaDoor
open Go.RowKit

/-- abbreviation k (from 0 on) stands at a place -/
def fitB (s : List UInt8) (i : Nat) (ls : List (List UInt8)) (k : Nat) : Bool := decide (k < 32) && decide ((ls[k]?.getD []) ≠ []) && isPre (ls[k]?.getD []) (s.drop i)

theorem size_ne {R : ByteArray} {l : List UInt8} (h : R.data.toList = l) : (0 < R.size) ↔ l ≠ [] := by
  have e : R.data.toList.length = R.size := by rw [Array.length_toList]; rfl
  rw [h] at e
  constructor
  · rintro h1 rfl; rw [List.length_nil] at e; omega
  · intro h1; have := pos_of_ne h1; omega

set_option maxRecDepth 100000 in
set_option maxHeartbeats 3200000 in
theorem rFits_any (w : World) (B : Nat) (s : ByteArray) (i : Nat) (A : Option Addr) (n c k : Nat) (ls : List (List UInt8)) (h : RdS w B A n ls) (hk : k < n) (hs : (s.size : Int) ≤ 100000) (hi : i ≤ s.size) (hm : Short_ 100000 ls) (hn : (n : Int) ≤ 100000) :
    Calls Tryd.prog 34 #[.string s, .int .i64 i, .slice A n c, .int .i64 k] w fun e w' => e = .returned (.bool (fitB s.data.toList i ls k)) ∧ w = w' := by
  obtain ⟨ad, rfl, _, hcell⟩ := h.2 (by omega)
  have hc := hcell k (by rw [h.1]; exact hk)
  have hp := hm k
  obtain ⟨R, hR⟩ : ∃ R, R = bs (ls[k]?.getD []) := ⟨_, rfl⟩
  have hRl : R.data.toList = ls[k]?.getD [] := by rw [hR, data_bs]
  have hRs : (R.size : Int) ≤ 100000 := by rw [hR, bs_size]; omega
  rw [← hR] at hc
  have hf : fitB s.data.toList i ls k = (decide (k < 32) && decide (0 < R.size) && isPre R.data.toList (s.data.toList.drop i)) := by
    unfold fitB
    rw [hRl]
    congr 2
    exact decide_eq_decide.2 (size_ne hRl).symm
  have hlen : R.data.toList.length = R.size := by rw [Array.length_toList]; rfl
  have hsl : s.data.toList.length = s.size := by rw [Array.length_toList]; rfl
  have hcm := cmp_at s R i
  have hlong : ¬ i + R.size ≤ s.size → isPre R.data.toList (s.data.toList.drop i) = false := fun hn => by
    cases hb : isPre R.data.toList (s.data.toList.drop i) with
    | false => rfl
    | true =>
      have := isPre_len hb
      rw [List.length_drop] at this
      omega
  rw [hf]
  clear hcell hp hR hRl hf hm h hlen hsl
  by_cases e1 : (k : Int) < 32
  · have e1n : k < 32 := by omega
    by_cases e2 : 0 < R.size
    · by_cases e3 : i + R.size ≤ s.size
      · obtain ⟨q, hq⟩ : ∃ q, q = isPre R.data.toList (s.data.toList.drop i) := ⟨_, rfl⟩
        rw [← hq] at hcm ⊢
        have e4 : (decide (k < 32) && decide (0 < R.size) && q) = q := by simp [e1n, e2]
        rw [e4]
        clear e4 hq hlong
        go_enter Tryd.func34, Tryd.ntmps34
        go_wp2_with fail
        go_ret
        exact ⟨rfl, rfl⟩
      · rw [hlong e3, Bool.and_false]
        clear hcm hlong
        go_enter Tryd.func34, Tryd.ntmps34
        go_wp2_with fail
        go_ret
        exact ⟨rfl, rfl⟩
    · have e4 : (decide (k < 32) && decide (0 < R.size) && isPre R.data.toList (s.data.toList.drop i)) = false := by simp [e2]
      rw [e4]
      clear hcm hlong e4
      go_enter Tryd.func34, Tryd.ntmps34
      go_wp2_with fail
      go_ret
      exact ⟨rfl, rfl⟩
  · have e4 : (decide (k < 32) && decide (0 < R.size) && isPre R.data.toList (s.data.toList.drop i)) = false := by simp [show ¬ k < 32 from by omega]
    rw [e4]
    clear hcm hlong e4
    go_enter Tryd.func34, Tryd.ntmps34
    go_wp2_with fail
    go_ret
    exact ⟨rfl, rfl⟩

end Go.Proofs.YteamolaoakhaiaaDoor
