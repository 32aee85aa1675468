/- Contracts of alpha.isTextByte, symbolWith, announced and of its closure. -/
import Derived.Test.YteamolaoakhaiaaDoorAlpF
namespace Go.Proofs.YteamolaoakhaiaaDoor
open Go.RowKit

theorem textB_one (c : UInt8) : textB [c] = isTx c := by
  unfold textB
  simp

set_option maxRecDepth 100000 in
set_option maxHeartbeats 800000 in
theorem isTextByte_any (w : World) (c : UInt8) : Calls Tryd.prog 39 #[.int .u8 (c.toNat : Int)] w fun e w' => e = .returned (.bool (isTx c)) ∧ Below w.heap.size w w' := by
  have hcv := Rd.toStr (P := Tryd.prog) (Rd.one w c 5) 63 9 5 1 Tryd.underlying63 Tryd.underlying5 Tryd.underlying9
  go_enter Tryd.func39, Tryd.ntmps39
  go_wp2_with fail
  refine (isText_any _ (bs [c]) (by rw [bs_size]; simp)).mono ?_
  rintro e w1 ⟨rfl, hb1⟩
  rw [data_bs, textB_one]
  go_wp2_with fail
  go_ret
  exact ⟨rfl, ((Below.refl _ _).alloc (Nat.le_refl _) _).trans (hb1.mono (by simp))⟩

/-- the symbol with that index; 0 if there is none -/
def sgAt (z : Int) : UInt8 := if z < 0 ∨ 31 ≤ z then 0 else sgL[z.toNat]?.getD 0

/-- the byte that numbers announce, and how many of them tell it -/
def annC (zs : List Int) : UInt8 :=
  if zs.getD 0 0 = 0 then 32 else if zs.getD 0 0 = 27 then byt (64 + zs.getD 1 0) else if zs.getD 0 0 = 28 then sgAt (zs.getD 1 0)
  else if zs.getD 0 0 = 29 then byt (zs.getD 1 0 * 16 + zs.getD 2 0) else byt (96 + zs.getD 0 0)
def annN (zs : List Int) : Nat :=
  if zs.getD 0 0 = 0 then 1 else if zs.getD 0 0 = 27 then 2 else if zs.getD 0 0 = 28 then 2 else if zs.getD 0 0 = 29 then 3 else 1

theorem annN_pos (zs : List Int) : 1 ≤ annN zs ∧ annN zs ≤ 3 := by unfold annN; repeat' split
                                                                   all_goals omega

theorem ann_one (c : UInt8) (r : List Int) : annC (oneL c ++ r) = c ∧ annN (oneL c ++ r) = (oneL c).length := by
  have hc := c.toNat_lt
  have hby : ∀ x : Int, x = c.toNat → byt x = c := fun x hx => by rw [hx, byt_byte]
  unfold oneL annC annN
  split
  · rename_i h
    refine ⟨?_, rfl⟩
    simp
    exact UInt8.toNat_inj.1 (by rw [h]; rfl)
  · split
    · rename_i h0 h
      simp [isSm] at h
      have h1 : ¬ (c.toNat : Int) - 96 = 0 := by omega
      have h2 : ¬ (c.toNat : Int) - 96 = 27 := by omega
      have h3 : ¬ (c.toNat : Int) - 96 = 28 := by omega
      have h4 : ¬ (c.toNat : Int) - 96 = 29 := by omega
      simp only [List.cons_append, List.nil_append, List.getD_cons_zero, if_neg h1, if_neg h2, if_neg h3, if_neg h4]
      exact ⟨hby _ (by omega), rfl⟩
    · split
      · refine ⟨?_, rfl⟩
        simp
        exact hby _ (by omega)
      · split
        · rename_i h
          refine ⟨?_, rfl⟩
          have hl : sgL.idxOf c < sgL.length := h
          have e : sgL[sgL.idxOf c] = c := List.getElem_idxOf hl
          simp
          unfold sgAt
          rw [if_neg (by omega), Int.toNat_natCast, List.getElem?_eq_getElem hl, e]
          rfl
        · refine ⟨?_, rfl⟩
          simp
          exact hby _ (by omega)

theorem ann_ret {zs : List Int} {c : UInt8} {n : Nat} {x y : Int} (hc : annC zs = c) (hn : annN zs = n) (hx : (c.toNat : Int) = x) (hy : (n : Int) = y) :
    Ending.returned (.tuple #[.int .u8 x, .int .i64 y]) = .returned (.tuple #[.int .u8 ((annC zs).toNat : Int), .int .i64 (annN zs : Nat)]) := by
  rw [hc, hn, hx, hy]

end Go.Proofs.YteamolaoakhaiaaDoor
