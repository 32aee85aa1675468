/- Contracts of alpha.isTextByte, symbolWith, announced and of its closure. -/
import Derived.Test.YtdolmhnajofkoaaAlpF
namespace Go.Proofs.Ytdolmhnajofkoaa
open Go.RowKit

theorem textB_one (c : UInt8) : textB [c] = isTx c := by
  unfold textB
  simp

set_option maxRecDepth 100000 in
set_option maxHeartbeats 800000 in
theorem isTextByte_any (w : World) (c : UInt8) : Calls Try.prog 25 #[.int .u8 (c.toNat : Int)] w fun e w' => e = .returned (.bool (isTx c)) ∧ Below w.heap.size w w' := by
  have hcv := Rd.toStr (P := Try.prog) (Rd.one w c 5) 33 9 5 1 Try.underlying33 Try.underlying5 Try.underlying9
  go_enter Try.func25, Try.ntmps25
  go_wp2_with fail
  refine (isText_any _ (bs [c]) (by rw [bs_size]; simp)).mono ?_
  rintro e w1 ⟨rfl, hb1⟩
  rw [data_bs, textB_one]
  go_wp2_with fail
  go_ret
  exact ⟨rfl, ((Below.refl _ _).alloc (Nat.le_refl _) _).trans (hb1.mono (by simp))⟩

/-- the symbol with that index; 0 if there is none -/
def sgAt (z : Int) : UInt8 := if z < 0 ∨ 31 ≤ z then 0 else sgL[z.toNat]?.getD 0

set_option maxRecDepth 100000 in
set_option maxHeartbeats 800000 in
theorem symbolWith_any (w : World) (z : Int) : Calls Try.prog 38 #[.int .i64 z] w fun e w' => e = .returned (.int .u8 ((sgAt z).toNat : Int)) ∧ w = w' := by
  by_cases h0 : z < 0
  · have e : sgAt z = 0 := by unfold sgAt; rw [if_pos (.inl h0)]
    rw [e]
    clear e
    go_enter Try.func38, Try.ntmps38
    go_wp2_with fail
    go_ret
    exact ⟨rfl, rfl⟩
  · by_cases h1 : 31 ≤ z
    · have e : sgAt z = 0 := by unfold sgAt; rw [if_pos (.inr h1)]
      rw [e]
      clear e
      go_enter Try.func38, Try.ntmps38
      go_wp2_with fail
      go_ret
      exact ⟨rfl, rfl⟩
    · obtain ⟨j, rfl⟩ : ∃ j : Nat, z = j := ⟨z.toNat, by omega⟩
      have hj : j < 31 := by omega
      have hsz : j < sgB.size := hj
      have e : sgAt (j : Int) = sgB[j] := by unfold sgAt; rw [if_neg (by omega), Int.toNat_natCast]; exact sgB_at hsz
      rw [e]
      have hsz2 : ((⟨#[48, 49, 50, 51, 52, 53, 54, 55, 56, 57, 46, 44, 33, 63, 39, 34, 45, 58, 59, 40, 41, 47, 38, 42, 43, 61, 37, 35, 36, 10, 60]⟩ : ByteArray).size) = 31 := rfl
      clear e h0
      go_enter Try.func38, Try.ntmps38
      go_wp2_with fail
      go_ret
      exact ⟨rfl, rfl⟩

set_option maxRecDepth 100000 in
set_option maxHeartbeats 800000 in
theorem follow_any (w : World) (B g : Nat) (A : Option Addr) (n c i : Nat) (z : Int) (zs : List Int) (h : RdI w B A n zs) (hg : w.cell? ⟨g, 0, none⟩ = some (.slice A n c)) (hz : z = i) (hn : (n : Int) ≤ 1000000) :
    Calls Try.prog 37 #[.int .i64 z, .pointer (some ⟨g, 0, none⟩)] w fun e w' => e = .returned (.int .i64 (zs.getD i 0)) ∧ w = w' := by
  subst hz
  by_cases hlt : i < n
  · obtain ⟨ad, rfl, _, hc⟩ := h.2.1 (by omega)
    have k1 := hc i (by rw [h.1]; exact hlt)
    obtain ⟨y, hy⟩ : ∃ y, y = zs.getD i 0 := ⟨_, rfl⟩
    rw [← hy] at k1 ⊢
    clear hy hc h
    go_enter Try.func37, Try.ntmps37
    go_wp2_with fail
    go_ret
    exact ⟨rfl, rfl⟩
  · have e : zs.getD i 0 = 0 := by rw [List.getD, List.getElem?_eq_none (by rw [h.1]; omega)]; rfl
    rw [e]
    clear e h
    go_enter Try.func37, Try.ntmps37
    go_wp2_with fail
    go_ret
    exact ⟨rfl, rfl⟩

/-- the byte that numbers announce, and how many of them tell it -/
def annC (zs : List Int) : UInt8 :=
  if zs.getD 0 0 = 0 then 32 else if zs.getD 0 0 = 27 then byt (64 + zs.getD 1 0) else if zs.getD 0 0 = 28 then sgAt (zs.getD 1 0)
  else if zs.getD 0 0 = 29 then byt (zs.getD 1 0 * 16 + zs.getD 2 0) else byt (96 + zs.getD 0 0)
def annN (zs : List Int) : Nat :=
  if zs.getD 0 0 = 0 then 1 else if zs.getD 0 0 = 27 then 2 else if zs.getD 0 0 = 28 then 2 else if zs.getD 0 0 = 29 then 3 else 1

theorem annN_pos (zs : List Int) : 1 ≤ annN zs ∧ annN zs ≤ 3 := by unfold annN; repeat' split
                                                                   all_goals omega

theorem ann_one (c : UInt8) (r : List Int) : annC (oneL c ++ r) = c ∧ annN (oneL c ++ r) = (oneL c).length := by
  have hc := c.toNat_lt
  have hby : ∀ x : Int, x = c.toNat → byt x = c := fun x hx => by rw [hx, byt_byte]
  unfold oneL annC annN
  split
  · rename_i h
    refine ⟨?_, rfl⟩
    simp
    exact UInt8.toNat_inj.1 (by rw [h]; rfl)
  · split
    · rename_i h0 h
      simp [isSm] at h
      have h1 : ¬ (c.toNat : Int) - 96 = 0 := by omega
      have h2 : ¬ (c.toNat : Int) - 96 = 27 := by omega
      have h3 : ¬ (c.toNat : Int) - 96 = 28 := by omega
      have h4 : ¬ (c.toNat : Int) - 96 = 29 := by omega
      simp only [List.cons_append, List.nil_append, List.getD_cons_zero, if_neg h1, if_neg h2, if_neg h3, if_neg h4]
      exact ⟨hby _ (by omega), rfl⟩
    · split
      · refine ⟨?_, rfl⟩
        simp
        exact hby _ (by omega)
      · split
        · rename_i h
          refine ⟨?_, rfl⟩
          have hl : sgL.idxOf c < sgL.length := h
          have e : sgL[sgL.idxOf c] = c := List.getElem_idxOf hl
          simp
          unfold sgAt
          rw [if_neg (by omega), Int.toNat_natCast, List.getElem?_eq_getElem hl, e]
          rfl
        · refine ⟨?_, rfl⟩
          simp
          exact hby _ (by omega)

theorem ann_ret {zs : List Int} {c : UInt8} {n : Nat} {x y : Int} (hc : annC zs = c) (hn : annN zs = n) (hx : (c.toNat : Int) = x) (hy : (n : Int) = y) :
    Ending.returned (.tuple #[.int .u8 x, .int .i64 y]) = .returned (.tuple #[.int .u8 ((annC zs).toNat : Int), .int .i64 (annN zs : Nat)]) := by
  rw [hc, hn, hx, hy]

set_option maxRecDepth 100000 in
set_option maxHeartbeats 1600000 in
theorem announced_any (w : World) (B : Nat) (A : Option Addr) (n c : Nat) (zs : List Int) (h : RdI w B A n zs) (hB : B ≤ w.heap.size) (h0 : 0 < n) (hn : (n : Int) ≤ 1000000) :
    Calls Try.prog 26 #[.slice A n c] w fun e w' => e = .returned (.tuple #[.int .u8 ((annC zs).toNat : Int), .int .i64 (annN zs : Nat)]) ∧ Below w.heap.size w w' := by
  have hmf : ∀ (fn : Fn) (first cap : Array Value) (w : World), (Instr.makeFunc fn first cap).run Try.prog w = .ok (.func fn first cap) w := fun _ _ _ _ => rfl
  have hke : Enters 37 := ⟨_, Try.func37, by kernel_rfl, by kernel_rfl⟩
  have hk := hke.run
  clear hke
  have hb := (Below.refl w.heap.size w).alloc (Nat.le_refl _) (.cells #[.slice A n c] 23)
  have H := Lib.hid (RdI.alloc h hB (.cells #[.slice A n c] 23))
  have hg := new_cell w 23 (.slice A n c)
  have HB := Lib.hid hb
  have HG := Lib.hid hg
  obtain ⟨ad, rfl, hab, hc⟩ := H.out.2.1 h0
  have k0 := hc 0 (by rw [H.out.1]; exact h0)
  rw [show ad.add 0 = ad from by simp [Addr.add]] at k0
  obtain ⟨x, hx⟩ : ∃ x, x = zs.getD 0 0 := ⟨_, rfl⟩
  obtain ⟨f1, hf1⟩ : ∃ x, x = zs.getD 1 0 := ⟨_, rfl⟩
  obtain ⟨f2, hf2⟩ : ∃ x, x = zs.getD 2 0 := ⟨_, rfl⟩
  rw [← hx] at k0
  have hxr := H.out.2.2 0
  rw [← hx] at hxr
  obtain ⟨hx1, hx2⟩ := hxr
  have HX := Lib.hid hx.symm
  have HF1 := Lib.hid hf1.symm
  have HF2 := Lib.hid hf2.symm
  clear hc hb h hx hf1 hf2
  by_cases a0 : x = 0
  · have HC : Hid (annC zs = 32 ∧ annN zs = 1) := Lib.hid (by unfold annC annN; rw [HX.out, if_pos a0, if_pos a0]; exact ⟨rfl, rfl⟩)
    subst a0
    go_enter Try.func26, Try.ntmps26
    go_wp2_with fail
    go_ret2
    exact ⟨ann_ret HC.out.1 HC.out.2 rfl rfl, HB.out⟩
  · have t0 : (x == 0) = false := by simpa using a0
    by_cases a1 : x = 27
    · have HC : Hid (annC zs = byt (64 + f1) ∧ annN zs = 2) := Lib.hid (by unfold annC annN; rw [HX.out, HF1.out, if_neg a0, if_neg a0, if_pos a1, if_pos a1]; exact ⟨rfl, rfl⟩)
      subst a1
      clear a0 t0
      go_enter Try.func26, Try.ntmps26
      go_wp2_with fail
      refine (follow_any _ B _ _ n c 1 1 zs H.out HG.out rfl hn).mono ?_
      rintro e w1 ⟨rfl, rfl⟩
      rw [HF1.out]
      go_wp2_with fail
      go_ret2
      refine ⟨ann_ret HC.out.1 HC.out.2 ?_ rfl, HB.out⟩
      rw [byt_val]; unfold wrap64; omega
    · have t1 : (x == 27) = false := by simpa using a1
      by_cases a2 : x = 28
      · have HC : Hid (annC zs = sgAt f1 ∧ annN zs = 2) := Lib.hid (by unfold annC annN; rw [HX.out, HF1.out, if_neg a0, if_neg a0, if_neg a1, if_neg a1, if_pos a2, if_pos a2]; exact ⟨rfl, rfl⟩)
        subst a2
        clear a0 t0 a1 t1
        go_enter Try.func26, Try.ntmps26
        go_wp2_with fail
        refine (follow_any _ B _ _ n c 1 1 zs H.out HG.out rfl hn).mono ?_
        rintro e w1 ⟨rfl, rfl⟩
        rw [HF1.out]
        go_wp2_with fail
        refine (symbolWith_any _ f1).mono ?_
        rintro e w1 ⟨rfl, rfl⟩
        go_wp2_with fail
        go_ret2
        exact ⟨ann_ret HC.out.1 HC.out.2 rfl rfl, HB.out⟩
      · have t2 : (x == 28) = false := by simpa using a2
        by_cases a3 : x = 29
        · have HC : Hid (annC zs = byt (f1 * 16 + f2) ∧ annN zs = 3) := Lib.hid (by unfold annC annN; rw [HX.out, HF1.out, HF2.out, if_neg a0, if_neg a0, if_neg a1, if_neg a1, if_neg a2, if_neg a2, if_pos a3, if_pos a3]; exact ⟨rfl, rfl⟩)
          subst a3
          clear a0 t0 a1 t1 a2 t2
          go_enter Try.func26, Try.ntmps26
          go_wp2_with fail
          refine (follow_any _ B _ _ n c 1 1 zs H.out HG.out rfl hn).mono ?_
          rintro e w1 ⟨rfl, rfl⟩
          rw [HF1.out]
          go_wp2_with fail
          refine (follow_any _ B _ _ n c 2 2 zs H.out HG.out rfl hn).mono ?_
          rintro e w1 ⟨rfl, rfl⟩
          rw [HF2.out]
          go_wp2_with fail
          go_ret2
          refine ⟨ann_ret HC.out.1 HC.out.2 ?_ rfl, HB.out⟩
          rw [byt_val]; unfold wrap64; omega
        · have t3 : (x == 29) = false := by simpa using a3
          have HC : Hid (annC zs = byt (96 + x) ∧ annN zs = 1) := Lib.hid (by unfold annC annN; rw [HX.out, if_neg a0, if_neg a0, if_neg a1, if_neg a1, if_neg a2, if_neg a2, if_neg a3, if_neg a3]; exact ⟨rfl, rfl⟩)
          clear a0 a1 a2 a3
          go_enter Try.func26, Try.ntmps26
          go_wp2_with fail
          go_ret2
          refine ⟨ann_ret HC.out.1 HC.out.2 ?_ rfl, HB.out⟩
          rw [byt_val]; unfold wrap64; omega

end Go.Proofs.Ytdolmhnajofkoaa
