/- What was put is taken back: the plain part. -/
import Derived.Test.YtacklmfplpgkdaaInts
namespace Go.Proofs.Ytacklmfplpgkdaa
open Go.RowKit

theorem getD_mid (p : List UInt8) (b : UInt8) (rest : List UInt8) : (p ++ b :: rest).getD p.length 0 = b := by
  rw [List.getD, List.getElem?_append_right (Nat.le_refl _), Nat.sub_self]
  rfl

set_option maxRecDepth 100000 in
theorem szL_vr (l : List UInt8) (most : Int) (x : Nat) : ∀ (f i m k : Nat) (p rest : List UInt8), l = p ++ (vr k ++ rest) → p.length = x + i → i + f = 6 → i ≤ 5 → k < 128 ^ (5 - i) → (i = 0 ∨ 0 < k) → ((m + k * 128 ^ i : Nat) : Int) ≤ most →
    szL l most x f i m = (((m + k * 128 ^ i : Nat) : Int), ((p.length + (vr k).length : Nat) : Int), 0) := by
  intro f
  induction f with
  | zero => intro i m k p rest _ _ hf hi; omega
  | succ f ih =>
    intro i m k p rest hl hp hf hi hk hk0 hmo
    have hi5 : i ≠ 5 := by
      rintro rfl
      simp at hk
      omega
    unfold szL
    have hvl : 0 < (vr k).length := by
      by_cases h : k < 128
      · rw [vr_lt h]; simp
      · rw [vr_ge (by omega)]; simp
    have hll : l.length = p.length + ((vr k).length + rest.length) := by rw [hl, List.length_append, List.length_append]
    have hpos : ((x : Int) + i).toNat = p.length := by omega
    rw [if_neg (by omega), if_neg hi5, hpos]
    by_cases h : k < 128
    · have hv : (l.getD p.length 0).toNat = k := by
        rw [hl, vr_lt h]
        show ((p ++ byt (k : Int) :: rest).getD p.length 0).toNat = k
        rw [getD_mid]
        have := byt_val (k : Int)
        omega
      rw [hv, if_pos h, if_neg (by omega), if_neg (by omega), vr_lt h]
      simp only [List.length_cons, List.length_nil, Prod.mk.injEq, and_true, true_and]
      omega
    · have hv : (l.getD p.length 0).toNat = k % 128 + 128 := by
        rw [hl, vr_ge (by omega)]
        show ((p ++ byt ((k % 128 + 128 : Nat) : Int) :: (vr (k / 128) ++ rest)).getD p.length 0).toNat = _
        rw [getD_mid]
        have := byt_val ((k % 128 + 128 : Nat) : Int)
        omega
      have e5 : 5 - i = (5 - (i + 1)) + 1 := by omega
      have hkd : k / 128 < 128 ^ (5 - (i + 1)) := by
        rw [e5, Nat.pow_succ] at hk
        exact Nat.div_lt_of_lt_mul (by rw [Nat.mul_comm]; exact hk)
      have esum : m + (k % 128 + 128 - 128) * 128 ^ i + k / 128 * 128 ^ (i + 1) = m + k * 128 ^ i := by
        have h1 : k % 128 + 128 - 128 = k % 128 := by omega
        rw [h1, Nat.pow_succ, Nat.mul_comm (128 ^ i) 128, ← Nat.mul_assoc, Nat.add_assoc, ← Nat.add_mul]
        congr 2
        omega
      rw [hv, if_neg (by omega)]
      rw [ih (i + 1) _ (k / 128) (p ++ [byt ((k % 128 + 128 : Nat) : Int)]) rest (by rw [hl, vr_ge (by omega)]; simp) (by simp; omega) (by omega) (by omega) hkd (.inr (by omega)) (by rw [esum]; exact hmo)]
      rw [esum, vr_ge (show 128 ≤ k by omega)]
      simp only [List.length_append, List.length_cons, List.length_nil, Prod.mk.injEq, and_true, true_and]
      omega

theorem sz_vr (p rest : List UInt8) (k : Nat) (most : Int) (hk : k < 34359738368) (hmo : (k : Int) ≤ most) : sz (p ++ (vr k ++ rest)) most (p.length : Int) 0 = ((k : Int), ((p.length + (vr k).length : Nat) : Int), 0) := by
  unfold sz
  rw [if_neg (by simp)]
  have h := szL_vr (p ++ (vr k ++ rest)) most p.length 6 0 0 k p rest rfl rfl rfl (by omega) (by simpa using hk) (.inl rfl) (by simpa using hmo)
  rw [h]
  simp

theorem nx_mid (p bs rest : List UInt8) : nx (p ++ (bs ++ rest)) (p.length : Int) (bs.length : Int) 0 = (bs, ((p.length + bs.length : Nat) : Int), 0) := by
  unfold nx
  rw [if_neg (by simp), if_neg (by rw [List.length_append, List.length_append]; omega)]
  simp

theorem txS_back (p rest s : List UInt8) (most : Int) (hk : s.length < 34359738368) (hmo : (s.length : Int) ≤ most) :
    txS (p ++ (vr s.length ++ (s ++ rest))) most (p.length : Int) 0 = (s, ((p.length + (vr s.length).length + s.length : Nat) : Int), 0) := by
  unfold txS
  rw [sz_vr p (s ++ rest) s.length most hk hmo]
  have h := nx_mid (p ++ vr s.length) s rest
  simp only [List.length_append, List.append_assoc] at h
  simp only [ne_eq, not_true_eq_false, if_false]
  rw [h]
  simp only [not_true_eq_false, if_false]

theorem w16_beL (z : Int) : w16 (beN (beL 2 z) : Nat) = w16 z := by
  rw [beL2]
  have h1 := byt_val (z / 256)
  have h2 := byt_val z
  show w16 (((0 * 256 + (byt (z / 256)).toNat) * 256 + (byt z).toNat : Nat) : Int) = w16 z
  unfold w16
  omega

theorem wsOf_wl (zs : List Int) : ∀ j, j < zs.length → (wsOf (wl zs) zs.length).getD j 0 = w16 (zs.getD j 0) := by
  intro j hj
  rw [wsOf_get _ _ _ hj]
  have h : ((wl zs).drop (2 * j)).take 2 = beL 2 (zs.getD j 0) := by
    have e : wl zs = wl (zs.take j) ++ (beL 2 (zs.getD j 0) ++ wl (zs.drop (j + 1))) := by
      conv => lhs; rw [← List.take_append_drop j zs, List.drop_eq_getElem_cons hj]
      unfold wl
      rw [List.flatMap_append, List.flatMap_cons]
      simp [List.getD, hj]
    have hl : (wl (zs.take j)).length = 2 * j := by rw [wl_length, List.length_take]; omega
    rw [e, ← hl, List.drop_left]
    exact List.take_left' (beL_length 2 _)
  rw [h, w16_beL]

theorem inS_back (p : List UInt8) (zs : List Int) (most : Int) (hk : zs.length < 34359738368) (hmo : (zs.length : Int) ≤ most) :
    inS (p ++ (vr zs.length ++ wl zs)) most (p.length : Int) 0 = (wsOf (wl zs) zs.length, ((p.length + (vr zs.length).length + (wl zs).length : Nat) : Int), 0) := by
  unfold inS
  rw [sz_vr p (wl zs) zs.length most hk hmo]
  have h := nx_mid (p ++ vr zs.length) (wl zs) []
  simp only [List.length_append, List.append_assoc, List.append_nil] at h
  have e2 : ((wl zs).length : Int) = 2 * (zs.length : Int) := by rw [wl_length]; omega
  rw [e2] at h
  simp only [ne_eq, not_true_eq_false, if_false]
  rw [h]
  simp only [not_true_eq_false, if_false, Int.toNat_natCast]

theorem own_cap {w : World} {base : Nat} {e : TypeId} {A : Option Addr} {n c : Nat} {xs : List Value} (h : w.ownsRow base e 1 (.slice A n c) n xs) : n ≤ c ∧ (c : Int) ≤ 9223372036854775807 := by
  rcases h.2 with ⟨hv, h0⟩ | ⟨g, cap, cur, hv, _, _, hnc, hcm, _⟩
  · injection hv with _ _ hc
    omega
  · injection hv with _ _ hc
    unfold maxLen at hcm
    omega

end Go.Proofs.Ytacklmfplpgkdaa
