/- Contracts of TakeText, the program's and the reference's. -/
import Derived.Test.YtacklmfplpgkdaaEnd
namespace Go.Proofs.Ytacklmfplpgkdaa
open Go.RowKit

theorem szL_bounds (l : List UInt8) (most x : Int) : ∀ (f i m : Nat), m < 128 ^ i → i + f ≤ 6 → (szL l most x f i m).2.2 = 0 → 0 ≤ (szL l most x f i m).1 ∧ (szL l most x f i m).1 ≤ 4398046511104 ∧ (szL l most x f i m).1 ≤ most ∧ 0 ≤ (szL l most x f i m).2.1 ∧ (szL l most x f i m).2.1 ≤ l.length := by
  intro f
  induction f with
  | zero => intro i m _ _ h; simp [szL] at h
  | succ f ih =>
    intro i m hm hi h
    have hp : 128 ^ (i + 1) ≤ 128 ^ 6 := Nat.pow_le_pow_right (by omega) (by omega)
    unfold szL at h ⊢
    obtain ⟨v, hv⟩ : ∃ v, v = (l.getD (x + i).toNat 0).toNat := ⟨_, rfl⟩
    have hv2 : v < 256 := by rw [hv]; exact UInt8.toNat_lt _
    rw [← hv] at h ⊢
    by_cases h1 : x < 0 ∨ (l.length : Int) - (x + i) < 1
    · rw [if_pos h1] at h; simp at h
    · rw [if_neg h1] at h ⊢
      by_cases h2 : i = 5
      · rw [if_pos h2] at h; simp at h
      · rw [if_neg h2] at h ⊢
        by_cases h3 : v < 128
        · rw [if_pos h3] at h ⊢
          by_cases h4 : v = 0 ∧ 0 < i
          · rw [if_pos h4] at h; simp at h
          · rw [if_neg h4] at h ⊢
            have hb : m + v * 128 ^ i < 128 ^ (i + 1) := by
              have : v * 128 ^ i ≤ 127 * 128 ^ i := Nat.mul_le_mul_right _ (by omega)
              rw [Nat.pow_succ]
              omega
            by_cases h5 : most < ((m + v * 128 ^ i : Nat) : Int)
            · rw [if_pos h5] at h; simp at h
            · rw [if_neg h5]
              simp only
              omega
        · rw [if_neg h3] at h ⊢
          refine ih (i + 1) _ ?_ (by omega) h
          have : (v - 128) * 128 ^ i ≤ 127 * 128 ^ i := Nat.mul_le_mul_right _ (by omega)
          rw [Nat.pow_succ]
          omega

theorem szL_err (l : List UInt8) (most x : Int) : ∀ (f i m : Nat), (szL l most x f i m).2.2 ≠ 0 → (szL l most x f i m).1 = 0 ∧ (szL l most x f i m).2.1 = x := by
  intro f
  induction f with
  | zero => intro i m _; exact ⟨rfl, rfl⟩
  | succ f ih =>
    intro i m h
    unfold szL at h ⊢
    by_cases h1 : x < 0 ∨ (l.length : Int) - (x + i) < 1
    · rw [if_pos h1]; exact ⟨rfl, rfl⟩
    · rw [if_neg h1] at h ⊢
      by_cases h2 : i = 5
      · rw [if_pos h2]; exact ⟨rfl, rfl⟩
      · rw [if_neg h2] at h ⊢
        by_cases h3 : (l.getD (x + i).toNat 0).toNat < 128
        · rw [if_pos h3] at h ⊢
          by_cases h4 : (l.getD (x + i).toNat 0).toNat = 0 ∧ 0 < i
          · rw [if_pos h4]; exact ⟨rfl, rfl⟩
          · rw [if_neg h4] at h ⊢
            by_cases h5 : most < ((m + (l.getD (x + i).toNat 0).toNat * 128 ^ i : Nat) : Int)
            · rw [if_pos h5]; exact ⟨rfl, rfl⟩
            · rw [if_neg h5] at h; exact absurd rfl h
        · rw [if_neg h3] at h ⊢
          exact ih (i + 1) _ h

theorem sz_bounds (l : List UInt8) (most x err : Int) (h : (sz l most x err).2.2 = 0) : 0 ≤ (sz l most x err).1 ∧ (sz l most x err).1 ≤ 4398046511104 ∧ (sz l most x err).1 ≤ most ∧ 0 ≤ (sz l most x err).2.1 ∧ (sz l most x err).2.1 ≤ l.length := by
  unfold sz at h ⊢
  by_cases he : err = 0
  · rw [if_neg (by simpa using he)] at h ⊢
    exact szL_bounds l most x 6 0 0 (by simp) (by omega) h
  · rw [if_pos he] at h; exact absurd h he

theorem sz_err (l : List UInt8) (most x err : Int) (h : (sz l most x err).2.2 ≠ 0) : (sz l most x err).1 = 0 ∧ (sz l most x err).2.1 = x := by
  unfold sz at h ⊢
  by_cases he : err = 0
  · rw [if_neg (by simpa using he)] at h ⊢
    exact szL_err l most x 6 0 0 h
  · rw [if_pos he]; exact ⟨rfl, rfl⟩

/-- what TakeText comes to -/
def txS (l : List UInt8) (most x err : Int) : List UInt8 × Int × Int :=
  if (sz l most x err).2.2 ≠ 0 then ([], x, (sz l most x err).2.2)
  else if (nx l (sz l most x err).2.1 (sz l most x err).1 0).2.2 ≠ 0 then ([], x, (nx l (sz l most x err).2.1 (sz l most x err).1 0).2.2)
  else nx l (sz l most x err).2.1 (sz l most x err).1 0

set_option maxRecDepth 100000 in
set_option maxHeartbeats 1600000 in
theorem tText_any (w : World) (B : Nat) (A : Option Addr) (n c : Nat) (l : List UInt8) (x err most : Int) (h : Rd w B A n l) (hB : B ≤ w.heap.size) (hx : x ≤ 9223372036854775807) (hc : n ≤ c) (hnm : (n : Int) ≤ 1000000) (hcm : (c : Int) ≤ 9223372036854775807) :
    Calls Try.prog 37 #[rv A n c x err, .int .i64 most] w fun e w' => e = .returned (.tuple #[.string ⟨(txS l most x err).1.toArray⟩, rv A n c (txS l most x err).2.1 (txS l most x err).2.2]) ∧ Below w.heap.size w w' := by
  have hlen := h.1
  have HS := Lib.hid (fun (W : World) (hR : Rd W B A n l) (hBW : B ≤ W.heap.size) => tSize_any W B A n c l x err most hR hBW hx hc hnm hcm)
  have hsb := sz_bounds l most x err
  have hse := sz_err l most x err
  unfold txS
  obtain ⟨r, hr⟩ : ∃ r, r = sz l most x err := ⟨_, rfl⟩
  rw [← hr] at HS hsb hse ⊢
  clear hr
  obtain ⟨m, x1, e1⟩ := r
  simp only at HS hsb hse ⊢
  have hm0 : 0 ≤ m := by
    by_cases h0 : e1 = 0
    · exact (hsb h0).1
    · rw [(hse h0).1]; exact Int.le_refl _
  have hx1 : x1 ≤ 9223372036854775807 := by
    by_cases h0 : e1 = 0
    · have := (hsb h0).2.2.2.2; omega
    · rw [(hse h0).2]; exact hx
  have HN := Lib.hid (fun (W : World) (hR : Rd W B A n l) (hBW : B ≤ W.heap.size) => next_any W B A n c l x1 m e1 hR hBW hm0 hx1 hc hnm hcm)
  -- what 'next' comes to from what TakeSize left
  have hq : (if e1 ≠ 0 then (([] : List UInt8), x, e1) else if (nx l x1 m 0).2.2 ≠ 0 then ([], x, (nx l x1 m 0).2.2) else nx l x1 m 0) =
      (if (nx l x1 m e1).2.2 ≠ 0 then (([] : List UInt8), x, (nx l x1 m e1).2.2) else nx l x1 m e1) := by
    by_cases h0 : e1 = 0
    · subst h0; rw [if_neg (by simp)]
    · have e : nx l x1 m e1 = ([], x1, e1) := by unfold nx; rw [if_pos h0]
      rw [if_pos h0, e, if_pos h0]
  rw [hq]
  clear hq hsb hse
  obtain ⟨q, hq⟩ : ∃ q, q = nx l x1 m e1 := ⟨_, rfl⟩
  rw [← hq] at HN ⊢
  clear hq
  obtain ⟨bs, x2, e2⟩ := q
  simp only at HN ⊢
  have H := Lib.hid h
  clear h
  by_cases he2 : e2 = 0
  · subst he2
    rw [if_neg (by simp)]
    go_enter Try.func37, Try.ntmps37
    go_wp2_with fail
    refine (HS.out _ (H.out.below ((((Below.refl _ _).alloc (Nat.le_refl _) _).alloc (by simp) _).mono hB)) (by simp; omega)).mono ?_
    rintro e w1 ⟨rfl, hb1⟩
    have hbel1 : Below w.heap.size w w1 := (((Below.refl _ _).alloc (Nat.le_refl _) _).alloc (by simp) _).trans (hb1.mono (by simp; omega))
    have b5 := (Blk.new_at (w.alloc (.cells #[.slice A n c, .int .i64 x, .int .i64 err] 37)) 37 #[.slice none 0 0, .int .i64 0, .int .i64 0] (w.heap.size + 1) (by simp)).below hb1 (by simp)
    have B5 := Lib.hid b5
    clear b5 hb1
    have hs1 := hbel1.size
    go_wp2_with fail
    refine (HN.out _ (H.out.below ((hbel1.alloc hs1 _).mono hB)) (by simp; omega)).mono ?_
    rintro e w2 ⟨A', n', c', rfl, hR, _, hb2, _⟩
    have hbel2 : Below w.heap.size w w2 := (hbel1.alloc hs1 (.cells #[.slice A n c, .int .i64 x1, .int .i64 e1] 37)).trans (hb2.mono (by simp; omega))
    have b5 := (B5.out.alloc _).below hb2 (by simp; have := B5.out.lt; omega)
    have hlt5 := b5.lt
    have k0 := b5.cell 0
    have k1 := b5.cell 1
    have k2 := b5.cell 2
    have f0 := b5.frozen 0
    have f1 := b5.frozen 1
    have f2 := b5.frozen 2
    simp only [List.getElem?_toArray, List.getElem?_cons_zero, List.getElem?_cons_succ] at k0 k1 k2
    have hs2 := hbel2.size
    have hconv := fun (cs : Array Value) (t : TypeId) => ((hR.alloc (by omega) (.cells cs t)).drew).toStr (P := Try.prog) 22 9 5 c' Try.underlying22 Try.underlying5 Try.underlying9
    clear b5 hb2 hR B5
    go_wp2_with fail
    go_region
    all_goals
      go_wp2
      refine bodyPost_ret (v := .tuple #[.string ⟨bs.toArray⟩, rv A n c x2 0]) (by simp [results, Try.results37, go_sem, k0, k1, k2, hlt5]) rfl ⟨rfl, ?_⟩
      exact ((((hbel2.setCell (by simp) _).setCell (by simp) _).setCell (by simp) _).alloc (by simp; omega) _).drew
  · rw [if_pos he2]
    have hbe : (e2 == 0) = false := beq_eq_false_iff_ne.2 he2
    have hbe2 : (e2 != 0) = true := by rw [bne_iff_ne]; exact he2
    go_enter Try.func37, Try.ntmps37
    go_wp2_with fail
    refine (HS.out _ (H.out.below ((((Below.refl _ _).alloc (Nat.le_refl _) _).alloc (by simp) _).mono hB)) (by simp; omega)).mono ?_
    rintro e w1 ⟨rfl, hb1⟩
    have hbel1 : Below w.heap.size w w1 := (((Below.refl _ _).alloc (Nat.le_refl _) _).alloc (by simp) _).trans (hb1.mono (by simp; omega))
    have B5 := Lib.hid ((Blk.new_at (w.alloc (.cells #[.slice A n c, .int .i64 x, .int .i64 err] 37)) 37 #[.slice none 0 0, .int .i64 0, .int .i64 0] (w.heap.size + 1) (by simp)).below hb1 (by simp))
    have B2 := Lib.hid (((Blk.new w 37 #[.slice A n c, .int .i64 x, .int .i64 err]).alloc (.cells #[.slice none 0 0, .int .i64 0, .int .i64 0] 37)).below hb1 (by simp; omega))
    clear hb1
    have hs1 := hbel1.size
    go_wp2_with fail
    refine (HN.out _ (H.out.below ((hbel1.alloc hs1 _).mono hB)) (by simp; omega)).mono ?_
    rintro e w2 ⟨A', n', c', rfl, _, _, hb2, _⟩
    have hbel2 : Below w.heap.size w w2 := (hbel1.alloc hs1 (.cells #[.slice A n c, .int .i64 x1, .int .i64 e1] 37)).trans (hb2.mono (by simp; omega))
    have B51 := Lib.hid ((B5.out.alloc _).below hb2 (by simp; have := B5.out.lt; omega))
    have b21 := (B2.out.alloc _).below hb2 (by simp; have := B2.out.lt; omega)
    have hlt2 := b21.lt
    have hlt5 := B51.out.lt
    have d20 := b21.cell 0
    have d21 := b21.cell 1
    have d22 := b21.cell 2
    simp only [List.getElem?_toArray, List.getElem?_cons_zero, List.getElem?_cons_succ] at d20 d21 d22
    have hs2 := hbel2.size
    clear hb2 b21 B5 B2
    go_wp2_with fail
    refine (failed_any _ _ _ _ _ _ _).mono ?_
    rintro e w3 ⟨rfl, hb3⟩
    have hbel3 : Below w.heap.size w w3 := (hbel2.alloc hs2 (.cells #[.slice A n c, .int .i64 x2, .int .i64 e2] 37)).trans (hb3.mono (by simp; omega))
    have b52 := (B51.out.alloc (.cells #[.slice A n c, .int .i64 x2, .int .i64 e2] 37)).below hb3 (by simp; omega)
    have k0 := b52.cell 0
    have k1 := b52.cell 1
    have k2 := b52.cell 2
    have f0 := b52.frozen 0
    have f1 := b52.frozen 1
    have f2 := b52.frozen 2
    simp only [List.getElem?_toArray, List.getElem?_cons_zero, List.getElem?_cons_succ] at k0 k1 k2
    clear b52 hb3
    go_wp2_with fail
    refine bodyPost_ret (v := .tuple #[.string ⟨([] : List UInt8).toArray⟩, rv A n c x e2]) (by simp [results, Try.results37, go_sem, k0, k1, k2]) rfl ⟨rfl, ?_⟩
    exact ((hbel3.setCell (by simp) _).setCell (by simp) _).setCell (by simp) _

end Go.Proofs.Ytacklmfplpgkdaa
