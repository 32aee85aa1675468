/- TreeSame: whether two expressions, two lists of statements are the same. -/
import Derived.Test.YtdmpadonnobeaaaAll10
import Derived.Test.YtdmpadonnobeaaaRegion
namespace Go.Proofs.Ytdmpadonnobeaaa
open Go.RowKit
set_option linter.unusedVariables false

set_option maxRecDepth 100000 in
set_option maxHeartbeats 12800000 in
theorem treeSame_any (x y : EL) (ss ts : List SL) (L M : Option Addr) (ln lc mn mc : Nat) (w : World) (hx : x.In w w.heap.size) (hy : y.In w w.heap.size) (hL : RowS6 w w.heap.size L ln ss) (hLi : SL.Ins w w.heap.size ss) (hM : RowS6 w w.heap.size M mn ts) (hMi : SL.Ins w w.heap.size ts) :
    Calls Try.prog 7 #[eVal x, eVal y, .slice L ln lc, .slice M mn mc] w fun f w' => f = .returned (.bool true) ∧ Below w.heap.size w w' := by
  obtain ⟨xv, hxv⟩ : ∃ v, v = eVal x := ⟨_, rfl⟩
  obtain ⟨yv, hyv⟩ : ∃ v, v = eVal y := ⟨_, rfl⟩
  have hE : ∀ W : World, Below w.heap.size w W → x.In W W.heap.size ∧ y.In W W.heap.size := fun W hb => ⟨EL.In.more hb.size (hx.below hb), EL.In.more hb.size (hy.below hb)⟩
  have hR : ∀ W : World, Below w.heap.size w W → RowS6 W W.heap.size L ln ss ∧ SL.Ins W W.heap.size ss := fun W hb => ⟨(hL.below hb).more hb.size, (hLi.below hb).more hb.size⟩
  have hN : ∀ W : World, Below w.heap.size w W → RowS6 W W.heap.size M mn ts ∧ SL.Ins W W.heap.size ts := fun W hb => ⟨(hM.below hb).more hb.size, (hMi.below hb).more hb.size⟩
  obtain ⟨b, hb⟩ : ∃ b, b = sameE x y := ⟨_, rfl⟩
  obtain ⟨d, hd⟩ : ∃ d, d = sameSs ss ts := ⟨_, rfl⟩
  obtain ⟨z1, hz1⟩ : ∃ z, z = sizeE x := ⟨_, rfl⟩
  obtain ⟨z2, hz2⟩ : ∃ z, z = min 65 (depE x) := ⟨_, rfl⟩
  obtain ⟨z3, hz3⟩ : ∃ z, z = sizeSs ss := ⟨_, rfl⟩
  obtain ⟨z4, hz4⟩ : ∃ z, z = min 65 (depSs ss) := ⟨_, rfl⟩
  obtain ⟨ny, hny⟩ : ∃ z, z = sizeE y := ⟨_, rfl⟩
  obtain ⟨tl, htl⟩ : ∃ z, z = totSs ss := ⟨_, rfl⟩
  obtain ⟨tm, htm⟩ : ∃ z, z = totSs ts := ⟨_, rfl⟩
  have hbs : b = true → sizeE y = z1 ∧ min 65 (depE y) = z2 := fun h => by have := sameE_sizes x y (hb.symm.trans h); rw [hz1, hz2, this.1, this.2]; exact ⟨rfl, rfl⟩
  have hds : d = true → sizeSs ts = z3 ∧ min 65 (depSs ts) = z4 := fun h => by have := sameSs_sizes ss ts (hd.symm.trans h); rw [hz3, hz4, this.1, this.2]; exact ⟨rfl, rfl⟩
  have f1 : ∀ W : World, Below w.heap.size w W → Calls Try.prog 9 #[xv, .int .i64 400] W (FewOut z1 400 W) := fun W h => by rw [hxv, hz1]; exact few_any x 400 (by decide) (by decide) W (hE W h).1
  have f2 : ∀ W : World, Below w.heap.size w W → Calls Try.prog 9 #[yv, .int .i64 400] W (FewOut ny 400 W) := fun W h => by rw [hyv, hny]; exact few_any y 400 (by decide) (by decide) W (hE W h).2
  have f3 : ∀ W : World, Below w.heap.size w W → Calls Try.prog 13 #[.slice L ln lc, .int .i64 400] W (FewOut tl 400 W) := fun W h => by rw [htl]; exact fewBlock_any ss 400 (by decide) (by decide) L ln lc W (hR W h).1 (hR W h).2
  have f4 : ∀ W : World, Below w.heap.size w W → Calls Try.prog 13 #[.slice M mn mc, .int .i64 400] W (FewOut tm 400 W) := fun W h => by rw [htm]; exact fewBlock_any ts 400 (by decide) (by decide) M mn mc W (hN W h).1 (hN W h).2
  have s1 : ∀ W : World, Below w.heap.size w W → Calls Try.prog 20 #[xv, yv] W fun f w' => f = .returned (.bool b) ∧ Below W.heap.size W w' := fun W h => by rw [hb, hxv, hyv]; exact tSame_any x y W (hE W h).1 (hE W h).2
  have s2 : ∀ W : World, Below w.heap.size w W → Calls Try.prog 22 #[xv, yv] W fun f w' => f = .returned (.bool b) ∧ Below W.heap.size W w' := fun W h => by rw [hb, hxv, hyv]; exact r10Same_any x y W (hE W h).1 (hE W h).2
  have s3 : ∀ W : World, Below w.heap.size w W → Calls Try.prog 20 #[xv, xv] W fun f w' => f = .returned (.bool true) ∧ Below W.heap.size W w' := fun W h => by rw [hxv]; have h2 := tSame_any x x W (hE W h).1 (hE W h).1; rw [sameE_refl] at h2; exact h2
  have s4 : ∀ W : World, Below w.heap.size w W → Calls Try.prog 21 #[.slice L ln lc, .slice M mn mc] W fun f w' => f = .returned (.bool d) ∧ Below W.heap.size W w' := fun W h => by rw [hd]; exact tSameBlock_any ss ts L M ln lc mn mc W (hR W h).1 (hR W h).2 (hN W h).1 (hN W h).2
  have s5 : ∀ W : World, Below w.heap.size w W → Calls Try.prog 23 #[.slice L ln lc, .slice M mn mc] W fun f w' => f = .returned (.bool d) ∧ Below W.heap.size W w' := fun W h => by rw [hd]; exact r10SameBlock_any ss ts L M ln lc mn mc W (hR W h).1 (hR W h).2 (hN W h).1 (hN W h).2
  have s6 : ∀ W : World, Below w.heap.size w W → Calls Try.prog 21 #[.slice L ln lc, .slice L ln lc] W fun f w' => f = .returned (.bool true) ∧ Below W.heap.size W w' := fun W h => by have h2 := tSameBlock_any ss ss L L ln lc ln lc W (hR W h).1 (hR W h).2 (hR W h).1 (hR W h).2; rw [sameSs_refl] at h2; exact h2
  have e1 : z1 ≤ 400 → ∀ W : World, Below w.heap.size w W → Calls Try.prog 24 #[xv] W fun f w' => f = .returned (.int .i64 (z1 : Int)) ∧ Below W.heap.size W w' := fun q W h => by rw [hz1] at q ⊢; rw [hxv]; exact tSize_any x (by omega) W (hE W h).1
  have e2 : b = true → ny ≤ 400 → ∀ W : World, Below w.heap.size w W → Calls Try.prog 24 #[yv] W fun f w' => f = .returned (.int .i64 (z1 : Int)) ∧ Below W.heap.size W w' := fun q0 q W h => by rw [hny] at q; rw [← (hbs q0).1, hyv]; exact tSize_any y (by omega) W (hE W h).2
  have e3 : ∀ W : World, Below w.heap.size w W → Calls Try.prog 25 #[xv] W fun f w' => f = .returned (.int .i64 (z2 : Int)) ∧ Below W.heap.size W w' := fun W h => by rw [hz2, hxv]; exact tDepth_any x W (hE W h).1
  have e4 : b = true → ∀ W : World, Below w.heap.size w W → Calls Try.prog 25 #[yv] W fun f w' => f = .returned (.int .i64 (z2 : Int)) ∧ Below W.heap.size W w' := fun q0 W h => by rw [← (hbs q0).2, hyv]; exact tDepth_any y W (hE W h).2
  have e5 : tl ≤ 400 → ∀ W : World, Below w.heap.size w W → Calls Try.prog 26 #[.slice L ln lc] W fun f w' => f = .returned (.int .i64 (z3 : Int)) ∧ Below W.heap.size W w' := fun q W h => by rw [htl] at q; rw [hz3]; exact tSizeBlock_any 400 (by decide) ss L ln lc W (Nat.le_trans (size_tot _ ss (Nat.le_refl _)) q) (hR W h).1 (hR W h).2
  have e6 : d = true → tm ≤ 400 → ∀ W : World, Below w.heap.size w W → Calls Try.prog 26 #[.slice M mn mc] W fun f w' => f = .returned (.int .i64 (z3 : Int)) ∧ Below W.heap.size W w' := fun q0 q W h => by rw [htm] at q; rw [← (hds q0).1]; exact tSizeBlock_any 400 (by decide) ts M mn mc W (Nat.le_trans (size_tot _ ts (Nat.le_refl _)) q) (hN W h).1 (hN W h).2
  have e7 : ∀ W : World, Below w.heap.size w W → Calls Try.prog 27 #[.slice L ln lc] W fun f w' => f = .returned (.int .i64 (z4 : Int)) ∧ Below W.heap.size W w' := fun W h => by rw [hz4]; exact tDepthBlock_any ss L ln lc W (hR W h).1 (hR W h).2
  have e8 : d = true → ∀ W : World, Below w.heap.size w W → Calls Try.prog 27 #[.slice M mn mc] W fun f w' => f = .returned (.int .i64 (z4 : Int)) ∧ Below W.heap.size W w' := fun q0 W h => by rw [← (hds q0).2]; exact tDepthBlock_any ts M mn mc W (hN W h).1 (hN W h).2
  have F1 := Lib.hid f1
  have F2 := Lib.hid f2
  have F3 := Lib.hid f3
  have F4 := Lib.hid f4
  have S1 := Lib.hid s1
  have S2 := Lib.hid s2
  have S3 := Lib.hid s3
  have S4 := Lib.hid s4
  have S5 := Lib.hid s5
  have S6 := Lib.hid s6
  have E1 := Lib.hid e1
  have E2 := Lib.hid e2
  have E3 := Lib.hid e3
  have E4 := Lib.hid e4
  have E5 := Lib.hid e5
  have E6 := Lib.hid e6
  have E7 := Lib.hid e7
  have E8 := Lib.hid e8
  rw [← hxv, ← hyv]
  clear f1 f2 f3 f4 s1 s2 s3 s4 s5 s6 e1 e2 e3 e4 e5 e6 e7 e8 hx hy hL hLi hM hMi hE hR hN hb hd hz1 hz2 hz3 hz4 hny htl htm hbs hds
  obtain ⟨k, o, m, s, A, n, c, es⟩ := x
  obtain ⟨k', o', m', s', A', n', c', es'⟩ := y
  have hxv2 : xv = .agg #[.int .i64 k, .int .i64 o, .int .i64 m, .string (bs s), .slice A n c] := hxv
  have hyv2 : yv = .agg #[.int .i64 k', .int .i64 o', .int .i64 m', .string (bs s'), .slice A' n' c'] := hyv
  clear hxv hyv
  subst hxv2
  subst hyv2
  obtain ⟨W, hW⟩ : ∃ W, W = ((w.alloc (.cells #[.int .i64 k, .int .i64 o, .int .i64 m, .string (bs s), .slice A n c] 24)).alloc (.cells #[.int .i64 k', .int .i64 o', .int .i64 m', .string (bs s'), .slice A' n' c'] 24)) := ⟨_, rfl⟩
  have HBW : Hid (Below w.heap.size w W) := Lib.hid (by rw [hW]; exact ((Below.refl _ _).alloc (Nat.le_refl _) _).alloc (by simp) _)
  have HKX : Hid (Blk W w.heap.size 24 #[.int .i64 k, .int .i64 o, .int .i64 m, .string (bs s), .slice A n c]) := Lib.hid (by rw [hW]; exact (Blk.new w _ _).alloc _)
  have HKY : Hid (Blk W (w.heap.size + 1) 24 #[.int .i64 k', .int .i64 o', .int .i64 m', .string (bs s'), .slice A' n' c']) := Lib.hid (by rw [hW]; exact Blk.new_at _ _ _ _ (by simp))
  have hcx : Hid (∀ u : World, Below W.heap.size W u → u.cell? ⟨w.heap.size, 0, none⟩ = some (.int .i64 k) ∧ u.cell? ⟨w.heap.size, 1, none⟩ = some (.int .i64 o) ∧ u.cell? ⟨w.heap.size, 2, none⟩ = some (.int .i64 m) ∧ u.cell? ⟨w.heap.size, 3, none⟩ = some (.string (bs s)) ∧ u.cell? ⟨w.heap.size, 4, none⟩ = some (.slice A n c)) := Lib.hid (fun u hb => by
    have hk : Blk W (w.heap.size) 24 #[.int .i64 k, .int .i64 o, .int .i64 m, .string (bs s), .slice A n c] := HKX.out
    have hk2 := hk.below hb hk.lt
    exact ⟨hk2.cell 0, hk2.cell 1, hk2.cell 2, hk2.cell 3, hk2.cell 4⟩)
  have hcy : Hid (∀ u : World, Below W.heap.size W u → u.cell? ⟨w.heap.size + 1, 0, none⟩ = some (.int .i64 k') ∧ u.cell? ⟨w.heap.size + 1, 1, none⟩ = some (.int .i64 o') ∧ u.cell? ⟨w.heap.size + 1, 2, none⟩ = some (.int .i64 m') ∧ u.cell? ⟨w.heap.size + 1, 3, none⟩ = some (.string (bs s')) ∧ u.cell? ⟨w.heap.size + 1, 4, none⟩ = some (.slice A' n' c')) := Lib.hid (fun u hb => by
    have hk : Blk W (w.heap.size + 1) 24 #[.int .i64 k', .int .i64 o', .int .i64 m', .string (bs s'), .slice A' n' c'] := HKY.out
    have hk2 := hk.below hb hk.lt
    exact ⟨hk2.cell 0, hk2.cell 1, hk2.cell 2, hk2.cell 3, hk2.cell 4⟩)
  go_enter Try.func7, Try.ntmps7
  go_wp2_with fail
  rw [← hW]
  clear hW
  refine (F1.out W HBW.out).mono ?_
  rintro f w1 ⟨r1, rfl, hr1, hb1⟩
  have HX1 := Lib.hid (HBW.out.trans (hb1.mono HBW.out.size))
  have HW1 := Lib.hid (hb1)
  clear hb1
  by_cases g1 : r1 < 0
  · clear hr1
    go_wp2_with fail
    refine (awake_any _).mono ?_
    rintro f wa ⟨rfl, hba⟩
    go_wp2_with fail
    go_ret
    exact ⟨rfl, HX1.out.trans (hba.mono HX1.out.size)⟩
  · have hs1 : z1 ≤ 400 := by have := hr1 (by omega); omega
    have HZ1 := Lib.hid hs1
    have g1' : decide (r1 < 0) = false := by rw [decide_eq_false_iff_not]; exact g1
    clear hr1 g1 hs1
    obtain ⟨q0, q1, q2, q3, q4⟩ := hcy.out w1 HW1.out
    go_wp2_with fail
    clear q0 q1 q2 q3 q4
    refine (F2.out w1 HX1.out).mono ?_
    rintro f w2 ⟨r2, rfl, hr2, hb2⟩
    have HX2 := Lib.hid (HX1.out.trans (hb2.mono HX1.out.size))
    have HW2 := Lib.hid (HW1.out.trans (hb2.mono HW1.out.size))
    clear hb2
    by_cases g2 : r2 < 0
    · clear hr2
      go_wp2_with fail
      refine (awake_any _).mono ?_
      rintro f wa ⟨rfl, hba⟩
      go_wp2_with fail
      go_ret
      exact ⟨rfl, HX2.out.trans (hba.mono HX2.out.size)⟩
    · have hs2 : ny ≤ 400 := by have := hr2 (by omega); omega
      have HZ2 := Lib.hid hs2
      have g2' : decide (r2 < 0) = false := by rw [decide_eq_false_iff_not]; exact g2
      clear hr2 g2 hs2
      go_wp2_with fail
      refine (F3.out w2 HX2.out).mono ?_
      rintro f w3 ⟨r3, rfl, hr3, hb3⟩
      have HX3 := Lib.hid (HX2.out.trans (hb3.mono HX2.out.size))
      have HW3 := Lib.hid (HW2.out.trans (hb3.mono HW2.out.size))
      clear hb3
      by_cases g3 : r3 < 0
      · clear hr3
        go_wp2_with fail
        refine (awake_any _).mono ?_
        rintro f wa ⟨rfl, hba⟩
        go_wp2_with fail
        go_ret
        exact ⟨rfl, HX3.out.trans (hba.mono HX3.out.size)⟩
      · have hs3 : tl ≤ 400 := by have := hr3 (by omega); omega
        have HZ3 := Lib.hid hs3
        have g3' : decide (r3 < 0) = false := by rw [decide_eq_false_iff_not]; exact g3
        clear hr3 g3 hs3
        go_wp2_with fail
        refine (F4.out w3 HX3.out).mono ?_
        rintro f w4 ⟨r4, rfl, hr4, hb4⟩
        have HX4 := Lib.hid (HX3.out.trans (hb4.mono HX3.out.size))
        have HW4 := Lib.hid (HW3.out.trans (hb4.mono HW3.out.size))
        clear hb4
        by_cases g4 : r4 < 0
        · clear hr4
          go_wp2_with fail
          refine (awake_any _).mono ?_
          rintro f wa ⟨rfl, hba⟩
          go_wp2_with fail
          go_ret
          exact ⟨rfl, HX4.out.trans (hba.mono HX4.out.size)⟩
        · have hs4 : tm ≤ 400 := by have := hr4 (by omega); omega
          have HZ4 := Lib.hid hs4
          have g4' : decide (r4 < 0) = false := by rw [decide_eq_false_iff_not]; exact g4
          clear hr4 g4 hs4
          obtain ⟨p0, p1, p2, p3, p4⟩ := hcx.out w4 HW4.out
          obtain ⟨q0, q1, q2, q3, q4⟩ := hcy.out w4 HW4.out
          go_wp2_with fail
          clear p0 p1 p2 p3 p4
          clear q0 q1 q2 q3 q4
          refine (S1.out w4 HX4.out).mono ?_
          rintro f w5 ⟨rfl, hb5⟩
          have HX5 := Lib.hid (HX4.out.trans (hb5.mono HX4.out.size))
          have HW5 := Lib.hid (HW4.out.trans (hb5.mono HW4.out.size))
          clear hb5
          go_wp2_with fail
          refine (S4.out w5 HX5.out).mono ?_
          rintro f w6 ⟨rfl, hb6⟩
          have HX6 := Lib.hid (HX5.out.trans (hb6.mono HX5.out.size))
          have HW6 := Lib.hid (HW5.out.trans (hb6.mono HW5.out.size))
          clear hb6
          obtain ⟨p0, p1, p2, p3, p4⟩ := hcx.out w6 HW6.out
          obtain ⟨q0, q1, q2, q3, q4⟩ := hcy.out w6 HW6.out
          have tb : (b != b) = false := by simp
          have td : (d != d) = false := by simp
          go_wp2_with fail
          clear p0 p1 p2 p3 p4
          clear q0 q1 q2 q3 q4
          refine (S2.out w6 HX6.out).mono ?_
          rintro f w7 ⟨rfl, hb7⟩
          have HX7 := Lib.hid (HX6.out.trans (hb7.mono HX6.out.size))
          have HW7 := Lib.hid (HW6.out.trans (hb7.mono HW6.out.size))
          clear hb7
          go_wp2_with fail
          refine (S5.out w7 HX7.out).mono ?_
          rintro f w8 ⟨rfl, hb8⟩
          have HX8 := Lib.hid (HX7.out.trans (hb8.mono HX7.out.size))
          have HW8 := Lib.hid (HW7.out.trans (hb8.mono HW7.out.size))
          clear hb8
          obtain ⟨p0, p1, p2, p3, p4⟩ := hcx.out w8 HW8.out
          go_wp2_with fail
          clear p0 p1 p2 p3 p4
          refine (S3.out w8 HX8.out).mono ?_
          rintro f w9 ⟨rfl, hb9⟩
          have HX9 := Lib.hid (HX8.out.trans (hb9.mono HX8.out.size))
          have HW9 := Lib.hid (HW8.out.trans (hb9.mono HW8.out.size))
          clear hb9
          go_wp2_with fail
          refine (S6.out w9 HX9.out).mono ?_
          rintro f w10 ⟨rfl, hb10⟩
          have HX10 := Lib.hid (HX9.out.trans (hb10.mono HX9.out.size))
          have HW10 := Lib.hid (HW9.out.trans (hb10.mono HW9.out.size))
          clear hb10
          have hcx2 : Hid (∀ u : World, Below w10.heap.size w10 u → u.cell? ⟨w.heap.size, 0, none⟩ = some (.int .i64 k) ∧ u.cell? ⟨w.heap.size, 1, none⟩ = some (.int .i64 o) ∧ u.cell? ⟨w.heap.size, 2, none⟩ = some (.int .i64 m) ∧ u.cell? ⟨w.heap.size, 3, none⟩ = some (.string (bs s)) ∧ u.cell? ⟨w.heap.size, 4, none⟩ = some (.slice A n c)) := Lib.hid (fun u hb => by
            have hk : Blk w10 (w.heap.size) 24 #[.int .i64 k, .int .i64 o, .int .i64 m, .string (bs s), .slice A n c] := (HKX.out).below HW10.out HKX.out.lt
            have hk2 := hk.below hb hk.lt
            exact ⟨hk2.cell 0, hk2.cell 1, hk2.cell 2, hk2.cell 3, hk2.cell 4⟩)
          have hcy2 : Hid (∀ u : World, Below w10.heap.size w10 u → u.cell? ⟨w.heap.size + 1, 0, none⟩ = some (.int .i64 k') ∧ u.cell? ⟨w.heap.size + 1, 1, none⟩ = some (.int .i64 o') ∧ u.cell? ⟨w.heap.size + 1, 2, none⟩ = some (.int .i64 m') ∧ u.cell? ⟨w.heap.size + 1, 3, none⟩ = some (.string (bs s')) ∧ u.cell? ⟨w.heap.size + 1, 4, none⟩ = some (.slice A' n' c')) := Lib.hid (fun u hb => by
            have hk : Blk w10 (w.heap.size + 1) 24 #[.int .i64 k', .int .i64 o', .int .i64 m', .string (bs s'), .slice A' n' c'] := (HKY.out).below HW10.out HKY.out.lt
            have hk2 := hk.below hb hk.lt
            exact ⟨hk2.cell 0, hk2.cell 1, hk2.cell 2, hk2.cell 3, hk2.cell 4⟩)
          clear tb td
          cases b with
          | false =>
            cases d with
            | false =>
              go_wp2_with fail
              refine wp_region_held_drew (S := Below w10.heap.size w10) (by kernel_rfl) (Below.refl _ _).drew (fun hHeld => ?_)
              refine held_take (i := 0) (fuel := 37) (v := ?_) (by rw [List.getElem?_toArray]; rfl) (by kernel_rfl) (by kernel_rfl) (by kernel_rfl) hHeld ?_ ?_ ?_ ?_
              rotate_left
              · intro u hSw
                go_simp
                try with_reducible rfl
              · rfl
              · exact fun _ _ _ h => h
              try simp only [Act.put, List.setIfInBounds_toArray, List.set_cons_zero, List.set_cons_succ]
              refine held_take (i := 1) (fuel := 36) (v := ?_) (by rw [List.getElem?_toArray]; rfl) (by kernel_rfl) (by kernel_rfl) (by kernel_rfl) hHeld ?_ ?_ ?_ ?_
              rotate_left
              · intro u hSw
                go_simp
                try with_reducible rfl
              · rfl
              · exact fun _ _ _ h => h
              try simp only [Act.put, List.setIfInBounds_toArray, List.set_cons_zero, List.set_cons_succ]
              refine held_take (i := 2) (fuel := 35) (v := ?_) (by rw [List.getElem?_toArray]; rfl) (by kernel_rfl) (by kernel_rfl) (by kernel_rfl) hHeld ?_ ?_ ?_ ?_
              rotate_left
              · intro u hSw
                go_simp
                try with_reducible rfl
              · rfl
              · exact fun _ _ _ h => h
              try simp only [Act.put, List.setIfInBounds_toArray, List.set_cons_zero, List.set_cons_succ]
              refine held_skip (i := 3) (fuel := 34) (by rw [List.getElem?_toArray]; rfl) (by kernel_rfl) (by kernel_rfl) (by kernel_rfl) hHeld ?_ ?_ ?_
              · rfl
              · exact fun _ _ _ h => h
              try simp only [Act.put, List.setIfInBounds_toArray, List.set_cons_zero, List.set_cons_succ]
              refine held_skip (i := 4) (fuel := 33) (by rw [List.getElem?_toArray]; rfl) (by kernel_rfl) (by kernel_rfl) (by kernel_rfl) hHeld ?_ ?_ ?_
              · rfl
              · exact fun _ _ _ h => h
              try simp only [Act.put, List.setIfInBounds_toArray, List.set_cons_zero, List.set_cons_succ]
              refine held_skip (i := 5) (fuel := 32) (by rw [List.getElem?_toArray]; rfl) (by kernel_rfl) (by kernel_rfl) (by kernel_rfl) hHeld ?_ ?_ ?_
              · rfl
              · exact fun _ _ _ h => h
              try simp only [Act.put, List.setIfInBounds_toArray, List.set_cons_zero, List.set_cons_succ]
              refine held_skip (i := 6) (fuel := 31) (by rw [List.getElem?_toArray]; rfl) (by kernel_rfl) (by kernel_rfl) (by kernel_rfl) hHeld ?_ ?_ ?_
              · rfl
              · exact fun _ _ _ h => h
              try simp only [Act.put, List.setIfInBounds_toArray, List.set_cons_zero, List.set_cons_succ]
              refine held_skip (i := 7) (fuel := 30) (by rw [List.getElem?_toArray]; rfl) (by kernel_rfl) (by kernel_rfl) (by kernel_rfl) hHeld ?_ ?_ ?_
              · rfl
              · exact fun _ _ _ h => h
              try simp only [Act.put, List.setIfInBounds_toArray, List.set_cons_zero, List.set_cons_succ]
              refine held_skip (i := 8) (fuel := 29) (by rw [List.getElem?_toArray]; rfl) (by kernel_rfl) (by kernel_rfl) (by kernel_rfl) hHeld ?_ ?_ ?_
              · rfl
              · exact fun _ _ _ h => h
              try simp only [Act.put, List.setIfInBounds_toArray, List.set_cons_zero, List.set_cons_succ]
              refine held_skip (i := 9) (fuel := 28) (by rw [List.getElem?_toArray]; rfl) (by kernel_rfl) (by kernel_rfl) (by kernel_rfl) hHeld ?_ ?_ ?_
              · rfl
              · exact fun _ _ _ h => h
              try simp only [Act.put, List.setIfInBounds_toArray, List.set_cons_zero, List.set_cons_succ]
              refine held_skip (i := 10) (fuel := 27) (by rw [List.getElem?_toArray]; rfl) (by kernel_rfl) (by kernel_rfl) (by kernel_rfl) hHeld ?_ ?_ ?_
              · rfl
              · exact fun _ _ _ h => h
              try simp only [Act.put, List.setIfInBounds_toArray, List.set_cons_zero, List.set_cons_succ]
              refine held_skip (i := 11) (fuel := 26) (by rw [List.getElem?_toArray]; rfl) (by kernel_rfl) (by kernel_rfl) (by kernel_rfl) hHeld ?_ ?_ ?_
              · rfl
              · exact fun _ _ _ h => h
              try simp only [Act.put, List.setIfInBounds_toArray, List.set_cons_zero, List.set_cons_succ]
              refine held_skip (i := 12) (fuel := 25) (by rw [List.getElem?_toArray]; rfl) (by kernel_rfl) (by kernel_rfl) (by kernel_rfl) hHeld ?_ ?_ ?_
              · rfl
              · exact fun _ _ _ h => h
              try simp only [Act.put, List.setIfInBounds_toArray, List.set_cons_zero, List.set_cons_succ]
              refine held_skip (i := 13) (fuel := 24) (by rw [List.getElem?_toArray]; rfl) (by kernel_rfl) (by kernel_rfl) (by kernel_rfl) hHeld ?_ ?_ ?_
              · rfl
              · exact fun _ _ _ h => h
              try simp only [Act.put, List.setIfInBounds_toArray, List.set_cons_zero, List.set_cons_succ]
              refine held_skip (i := 14) (fuel := 23) (by rw [List.getElem?_toArray]; rfl) (by kernel_rfl) (by kernel_rfl) (by kernel_rfl) hHeld ?_ ?_ ?_
              · rfl
              · exact fun _ _ _ h => h
              try simp only [Act.put, List.setIfInBounds_toArray, List.set_cons_zero, List.set_cons_succ]
              refine held_take (i := 15) (fuel := 22) (v := ?_) (by rw [List.getElem?_toArray]; rfl) (by kernel_rfl) (by kernel_rfl) (by kernel_rfl) hHeld ?_ ?_ ?_ ?_
              rotate_left
              · intro u hSw
                go_simp
                try with_reducible rfl
              · rfl
              · exact fun _ _ _ h => h
              try simp only [Act.put, List.setIfInBounds_toArray, List.set_cons_zero, List.set_cons_succ]
              refine held_take (i := 16) (fuel := 21) (v := ?_) (by rw [List.getElem?_toArray]; rfl) (by kernel_rfl) (by kernel_rfl) (by kernel_rfl) hHeld ?_ ?_ ?_ ?_
              rotate_left
              · intro u hSw
                go_simp
                try with_reducible rfl
              · rfl
              · exact fun _ _ _ h => h
              try simp only [Act.put, List.setIfInBounds_toArray, List.set_cons_zero, List.set_cons_succ]
              refine held_take (i := 17) (fuel := 20) (v := ?_) (by rw [List.getElem?_toArray]; rfl) (by kernel_rfl) (by kernel_rfl) (by kernel_rfl) hHeld ?_ ?_ ?_ ?_
              rotate_left
              · intro u hSw
                go_simp
                try with_reducible rfl
              · rfl
              · exact fun _ _ _ h => h
              try simp only [Act.put, List.setIfInBounds_toArray, List.set_cons_zero, List.set_cons_succ]
              refine held_take (i := 18) (fuel := 19) (v := ?_) (by rw [List.getElem?_toArray]; rfl) (by kernel_rfl) (by kernel_rfl) (by kernel_rfl) hHeld ?_ ?_ ?_ ?_
              rotate_left
              · intro u hSw
                go_simp
                try with_reducible rfl
              · rfl
              · exact fun _ _ _ h => h
              try simp only [Act.put, List.setIfInBounds_toArray, List.set_cons_zero, List.set_cons_succ]
              refine held_take (i := 19) (fuel := 18) (v := ?_) (by rw [List.getElem?_toArray]; rfl) (by kernel_rfl) (by kernel_rfl) (by kernel_rfl) hHeld ?_ ?_ ?_ ?_
              rotate_left
              · intro u hSw
                go_simp
                try with_reducible rfl
              · rfl
              · exact fun _ _ _ h => h
              try simp only [Act.put, List.setIfInBounds_toArray, List.set_cons_zero, List.set_cons_succ]
              refine held_skip (i := 20) (fuel := 17) (by rw [List.getElem?_toArray]; rfl) (by kernel_rfl) (by kernel_rfl) (by kernel_rfl) hHeld ?_ ?_ ?_
              · rfl
              · exact fun _ _ _ h => h
              try simp only [Act.put, List.setIfInBounds_toArray, List.set_cons_zero, List.set_cons_succ]
              refine held_skip (i := 21) (fuel := 16) (by rw [List.getElem?_toArray]; rfl) (by kernel_rfl) (by kernel_rfl) (by kernel_rfl) hHeld ?_ ?_ ?_
              · rfl
              · exact fun _ _ _ h => h
              try simp only [Act.put, List.setIfInBounds_toArray, List.set_cons_zero, List.set_cons_succ]
              refine held_skip (i := 22) (fuel := 15) (by rw [List.getElem?_toArray]; rfl) (by kernel_rfl) (by kernel_rfl) (by kernel_rfl) hHeld ?_ ?_ ?_
              · rfl
              · exact fun _ _ _ h => h
              try simp only [Act.put, List.setIfInBounds_toArray, List.set_cons_zero, List.set_cons_succ]
              refine held_skip (i := 23) (fuel := 14) (by rw [List.getElem?_toArray]; rfl) (by kernel_rfl) (by kernel_rfl) (by kernel_rfl) hHeld ?_ ?_ ?_
              · rfl
              · exact fun _ _ _ h => h
              try simp only [Act.put, List.setIfInBounds_toArray, List.set_cons_zero, List.set_cons_succ]
              refine held_skip (i := 24) (fuel := 13) (by rw [List.getElem?_toArray]; rfl) (by kernel_rfl) (by kernel_rfl) (by kernel_rfl) hHeld ?_ ?_ ?_
              · rfl
              · exact fun _ _ _ h => h
              try simp only [Act.put, List.setIfInBounds_toArray, List.set_cons_zero, List.set_cons_succ]
              refine held_skip (i := 25) (fuel := 12) (by rw [List.getElem?_toArray]; rfl) (by kernel_rfl) (by kernel_rfl) (by kernel_rfl) hHeld ?_ ?_ ?_
              · rfl
              · exact fun _ _ _ h => h
              try simp only [Act.put, List.setIfInBounds_toArray, List.set_cons_zero, List.set_cons_succ]
              refine held_skip (i := 26) (fuel := 11) (by rw [List.getElem?_toArray]; rfl) (by kernel_rfl) (by kernel_rfl) (by kernel_rfl) hHeld ?_ ?_ ?_
              · rfl
              · exact fun _ _ _ h => h
              try simp only [Act.put, List.setIfInBounds_toArray, List.set_cons_zero, List.set_cons_succ]
              refine held_skip (i := 27) (fuel := 10) (by rw [List.getElem?_toArray]; rfl) (by kernel_rfl) (by kernel_rfl) (by kernel_rfl) hHeld ?_ ?_ ?_
              · rfl
              · exact fun _ _ _ h => h
              try simp only [Act.put, List.setIfInBounds_toArray, List.set_cons_zero, List.set_cons_succ]
              refine held_skip (i := 28) (fuel := 9) (by rw [List.getElem?_toArray]; rfl) (by kernel_rfl) (by kernel_rfl) (by kernel_rfl) hHeld ?_ ?_ ?_
              · rfl
              · exact fun _ _ _ h => h
              try simp only [Act.put, List.setIfInBounds_toArray, List.set_cons_zero, List.set_cons_succ]
              refine held_skip (i := 29) (fuel := 8) (by rw [List.getElem?_toArray]; rfl) (by kernel_rfl) (by kernel_rfl) (by kernel_rfl) hHeld ?_ ?_ ?_
              · rfl
              · exact fun _ _ _ h => h
              try simp only [Act.put, List.setIfInBounds_toArray, List.set_cons_zero, List.set_cons_succ]
              refine held_skip (i := 30) (fuel := 7) (by rw [List.getElem?_toArray]; rfl) (by kernel_rfl) (by kernel_rfl) (by kernel_rfl) hHeld ?_ ?_ ?_
              · rfl
              · exact fun _ _ _ h => h
              try simp only [Act.put, List.setIfInBounds_toArray, List.set_cons_zero, List.set_cons_succ]
              refine held_skip (i := 31) (fuel := 6) (by rw [List.getElem?_toArray]; rfl) (by kernel_rfl) (by kernel_rfl) (by kernel_rfl) hHeld ?_ ?_ ?_
              · rfl
              · exact fun _ _ _ h => h
              try simp only [Act.put, List.setIfInBounds_toArray, List.set_cons_zero, List.set_cons_succ]
              refine held_take (i := 32) (fuel := 5) (v := ?_) (by rw [List.getElem?_toArray]; rfl) (by kernel_rfl) (by kernel_rfl) (by kernel_rfl) hHeld ?_ ?_ ?_ ?_
              rotate_left
              · intro u hSw
                go_simp
                try with_reducible rfl
              · rfl
              · exact fun _ _ _ h => h
              try simp only [Act.put, List.setIfInBounds_toArray, List.set_cons_zero, List.set_cons_succ]
              refine held_take (i := 33) (fuel := 4) (v := ?_) (by rw [List.getElem?_toArray]; rfl) (by kernel_rfl) (by kernel_rfl) (by kernel_rfl) hHeld ?_ ?_ ?_ ?_
              rotate_left
              · intro u hSw
                go_simp
                try with_reducible rfl
              · rfl
              · exact fun _ _ _ h => h
              try simp only [Act.put, List.setIfInBounds_toArray, List.set_cons_zero, List.set_cons_succ]
              refine held_take (i := 34) (fuel := 3) (v := ?_) (by rw [List.getElem?_toArray]; rfl) (by kernel_rfl) (by kernel_rfl) (by kernel_rfl) hHeld ?_ ?_ ?_ ?_
              rotate_left
              · intro u hSw
                go_simp
                try with_reducible rfl
              · rfl
              · exact fun _ _ _ h => h
              try simp only [Act.put, List.setIfInBounds_toArray, List.set_cons_zero, List.set_cons_succ]
              refine held_one (i := 35) (fuel := 2) (by kernel_rfl) (by rw [List.getElem?_toArray]; rfl) (fun K hK => ?_)
              go_simp
              refine (awake_any _).mono ?_
              rintro f w30 ⟨rfl, hb30⟩
              refine hK.out _ _ ?_ (fun hHeld => ?_)
              · exact hHeld.trans (hb30.mono hHeld.size)
              clear hK K
              try simp only [Act.put, List.setIfInBounds_toArray, List.set_cons_zero, List.set_cons_succ]
              refine held_take (i := 36) (fuel := 1) (v := ?_) (by rw [List.getElem?_toArray]; rfl) (by kernel_rfl) (by kernel_rfl) (by kernel_rfl) hHeld ?_ ?_ ?_ ?_
              rotate_left
              · intro u hSw
                go_simp
                try with_reducible rfl
              · rfl
              · exact fun _ _ _ h => h
              try simp only [Act.put, List.setIfInBounds_toArray, List.set_cons_zero, List.set_cons_succ]
              refine held_take (i := 37) (fuel := 0) (v := ?_) (by rw [List.getElem?_toArray]; rfl) (by kernel_rfl) (by kernel_rfl) (by kernel_rfl) hHeld ?_ ?_ ?_ ?_
              rotate_left
              · intro u hSw
                go_simp
                try with_reducible rfl
              · rfl
              · exact fun _ _ _ h => h
              try simp only [Act.put, List.setIfInBounds_toArray, List.set_cons_zero, List.set_cons_succ]
              refine wpAnyH_done (by kernel_rfl) ?_ _
              have HF := Lib.hid (HX10.out.trans (hHeld.mono HX10.out.size))
              go_wp2_with fail
              go_ret
              exact ⟨rfl, HF.out⟩
            | true =>
              have ZL := Lib.hid (E5.out HZ3.out)
              have ZM := Lib.hid (E6.out (by first | rfl | trivial) HZ4.out)
              have DL := E7
              have DM := Lib.hid (E8.out (by first | rfl | trivial))
              go_wp2_with fail
              refine wp_region_held_drew (S := Below w10.heap.size w10) (by kernel_rfl) (Below.refl _ _).drew (fun hHeld => ?_)
              refine held_take (i := 0) (fuel := 37) (v := ?_) (by rw [List.getElem?_toArray]; rfl) (by kernel_rfl) (by kernel_rfl) (by kernel_rfl) hHeld ?_ ?_ ?_ ?_
              rotate_left
              · intro u hSw
                go_simp
                try with_reducible rfl
              · rfl
              · exact fun _ _ _ h => h
              try simp only [Act.put, List.setIfInBounds_toArray, List.set_cons_zero, List.set_cons_succ]
              refine held_take (i := 1) (fuel := 36) (v := ?_) (by rw [List.getElem?_toArray]; rfl) (by kernel_rfl) (by kernel_rfl) (by kernel_rfl) hHeld ?_ ?_ ?_ ?_
              rotate_left
              · intro u hSw
                go_simp
                try with_reducible rfl
              · rfl
              · exact fun _ _ _ h => h
              try simp only [Act.put, List.setIfInBounds_toArray, List.set_cons_zero, List.set_cons_succ]
              refine held_take (i := 2) (fuel := 35) (v := ?_) (by rw [List.getElem?_toArray]; rfl) (by kernel_rfl) (by kernel_rfl) (by kernel_rfl) hHeld ?_ ?_ ?_ ?_
              rotate_left
              · intro u hSw
                go_simp
                try with_reducible rfl
              · rfl
              · exact fun _ _ _ h => h
              try simp only [Act.put, List.setIfInBounds_toArray, List.set_cons_zero, List.set_cons_succ]
              refine held_skip (i := 3) (fuel := 34) (by rw [List.getElem?_toArray]; rfl) (by kernel_rfl) (by kernel_rfl) (by kernel_rfl) hHeld ?_ ?_ ?_
              · rfl
              · exact fun _ _ _ h => h
              try simp only [Act.put, List.setIfInBounds_toArray, List.set_cons_zero, List.set_cons_succ]
              refine held_skip (i := 4) (fuel := 33) (by rw [List.getElem?_toArray]; rfl) (by kernel_rfl) (by kernel_rfl) (by kernel_rfl) hHeld ?_ ?_ ?_
              · rfl
              · exact fun _ _ _ h => h
              try simp only [Act.put, List.setIfInBounds_toArray, List.set_cons_zero, List.set_cons_succ]
              refine held_skip (i := 5) (fuel := 32) (by rw [List.getElem?_toArray]; rfl) (by kernel_rfl) (by kernel_rfl) (by kernel_rfl) hHeld ?_ ?_ ?_
              · rfl
              · exact fun _ _ _ h => h
              try simp only [Act.put, List.setIfInBounds_toArray, List.set_cons_zero, List.set_cons_succ]
              refine held_skip (i := 6) (fuel := 31) (by rw [List.getElem?_toArray]; rfl) (by kernel_rfl) (by kernel_rfl) (by kernel_rfl) hHeld ?_ ?_ ?_
              · rfl
              · exact fun _ _ _ h => h
              try simp only [Act.put, List.setIfInBounds_toArray, List.set_cons_zero, List.set_cons_succ]
              refine held_skip (i := 7) (fuel := 30) (by rw [List.getElem?_toArray]; rfl) (by kernel_rfl) (by kernel_rfl) (by kernel_rfl) hHeld ?_ ?_ ?_
              · rfl
              · exact fun _ _ _ h => h
              try simp only [Act.put, List.setIfInBounds_toArray, List.set_cons_zero, List.set_cons_succ]
              refine held_skip (i := 8) (fuel := 29) (by rw [List.getElem?_toArray]; rfl) (by kernel_rfl) (by kernel_rfl) (by kernel_rfl) hHeld ?_ ?_ ?_
              · rfl
              · exact fun _ _ _ h => h
              try simp only [Act.put, List.setIfInBounds_toArray, List.set_cons_zero, List.set_cons_succ]
              refine held_skip (i := 9) (fuel := 28) (by rw [List.getElem?_toArray]; rfl) (by kernel_rfl) (by kernel_rfl) (by kernel_rfl) hHeld ?_ ?_ ?_
              · rfl
              · exact fun _ _ _ h => h
              try simp only [Act.put, List.setIfInBounds_toArray, List.set_cons_zero, List.set_cons_succ]
              refine held_skip (i := 10) (fuel := 27) (by rw [List.getElem?_toArray]; rfl) (by kernel_rfl) (by kernel_rfl) (by kernel_rfl) hHeld ?_ ?_ ?_
              · rfl
              · exact fun _ _ _ h => h
              try simp only [Act.put, List.setIfInBounds_toArray, List.set_cons_zero, List.set_cons_succ]
              refine held_skip (i := 11) (fuel := 26) (by rw [List.getElem?_toArray]; rfl) (by kernel_rfl) (by kernel_rfl) (by kernel_rfl) hHeld ?_ ?_ ?_
              · rfl
              · exact fun _ _ _ h => h
              try simp only [Act.put, List.setIfInBounds_toArray, List.set_cons_zero, List.set_cons_succ]
              refine held_skip (i := 12) (fuel := 25) (by rw [List.getElem?_toArray]; rfl) (by kernel_rfl) (by kernel_rfl) (by kernel_rfl) hHeld ?_ ?_ ?_
              · rfl
              · exact fun _ _ _ h => h
              try simp only [Act.put, List.setIfInBounds_toArray, List.set_cons_zero, List.set_cons_succ]
              refine held_skip (i := 13) (fuel := 24) (by rw [List.getElem?_toArray]; rfl) (by kernel_rfl) (by kernel_rfl) (by kernel_rfl) hHeld ?_ ?_ ?_
              · rfl
              · exact fun _ _ _ h => h
              try simp only [Act.put, List.setIfInBounds_toArray, List.set_cons_zero, List.set_cons_succ]
              refine held_skip (i := 14) (fuel := 23) (by rw [List.getElem?_toArray]; rfl) (by kernel_rfl) (by kernel_rfl) (by kernel_rfl) hHeld ?_ ?_ ?_
              · rfl
              · exact fun _ _ _ h => h
              try simp only [Act.put, List.setIfInBounds_toArray, List.set_cons_zero, List.set_cons_succ]
              refine held_take (i := 15) (fuel := 22) (v := ?_) (by rw [List.getElem?_toArray]; rfl) (by kernel_rfl) (by kernel_rfl) (by kernel_rfl) hHeld ?_ ?_ ?_ ?_
              rotate_left
              · intro u hSw
                go_simp
                try with_reducible rfl
              · rfl
              · exact fun _ _ _ h => h
              try simp only [Act.put, List.setIfInBounds_toArray, List.set_cons_zero, List.set_cons_succ]
              refine held_take (i := 16) (fuel := 21) (v := ?_) (by rw [List.getElem?_toArray]; rfl) (by kernel_rfl) (by kernel_rfl) (by kernel_rfl) hHeld ?_ ?_ ?_ ?_
              rotate_left
              · intro u hSw
                go_simp
                try with_reducible rfl
              · rfl
              · exact fun _ _ _ h => h
              try simp only [Act.put, List.setIfInBounds_toArray, List.set_cons_zero, List.set_cons_succ]
              refine held_take (i := 17) (fuel := 20) (v := ?_) (by rw [List.getElem?_toArray]; rfl) (by kernel_rfl) (by kernel_rfl) (by kernel_rfl) hHeld ?_ ?_ ?_ ?_
              rotate_left
              · intro u hSw
                go_simp
                try with_reducible rfl
              · rfl
              · exact fun _ _ _ h => h
              try simp only [Act.put, List.setIfInBounds_toArray, List.set_cons_zero, List.set_cons_succ]
              refine held_take (i := 18) (fuel := 19) (v := ?_) (by rw [List.getElem?_toArray]; rfl) (by kernel_rfl) (by kernel_rfl) (by kernel_rfl) hHeld ?_ ?_ ?_ ?_
              rotate_left
              · intro u hSw
                go_simp
                try with_reducible rfl
              · rfl
              · exact fun _ _ _ h => h
              try simp only [Act.put, List.setIfInBounds_toArray, List.set_cons_zero, List.set_cons_succ]
              refine held_take (i := 19) (fuel := 18) (v := ?_) (by rw [List.getElem?_toArray]; rfl) (by kernel_rfl) (by kernel_rfl) (by kernel_rfl) hHeld ?_ ?_ ?_ ?_
              rotate_left
              · intro u hSw
                go_simp
                try with_reducible rfl
              · rfl
              · exact fun _ _ _ h => h
              try simp only [Act.put, List.setIfInBounds_toArray, List.set_cons_zero, List.set_cons_succ]
              refine held_take (i := 20) (fuel := 17) (v := ?_) (by rw [List.getElem?_toArray]; rfl) (by kernel_rfl) (by kernel_rfl) (by kernel_rfl) hHeld ?_ ?_ ?_ ?_
              rotate_left
              · intro u hSw
                go_simp
                try with_reducible rfl
              · rfl
              · exact fun _ _ _ h => h
              try simp only [Act.put, List.setIfInBounds_toArray, List.set_cons_zero, List.set_cons_succ]
              refine held_take (i := 22) (fuel := 16) (v := ?_) (by rw [List.getElem?_toArray]; rfl) (by kernel_rfl) (by kernel_rfl) (by kernel_rfl) hHeld ?_ ?_ ?_ ?_
              rotate_left
              · intro u hSw
                go_simp
                try with_reducible rfl
              · rfl
              · exact fun _ _ _ h => h
              try simp only [Act.put, List.setIfInBounds_toArray, List.set_cons_zero, List.set_cons_succ]
              refine held_one (i := 21) (fuel := 15) (by kernel_rfl) (by rw [List.getElem?_toArray]; rfl) (fun K hK => ?_)
              go_simp
              refine (ZL.out _ (HX10.out.trans (hHeld.mono HX10.out.size))).mono ?_
              rintro f w25 ⟨rfl, hb25⟩
              refine hK.out _ _ ?_ (fun hHeld => ?_)
              · exact hHeld.trans (hb25.mono hHeld.size)
              clear hK K
              try simp only [Act.put, List.setIfInBounds_toArray, List.set_cons_zero, List.set_cons_succ]
              refine held_one (i := 23) (fuel := 14) (by kernel_rfl) (by rw [List.getElem?_toArray]; rfl) (fun K hK => ?_)
              go_simp
              refine (ZM.out _ (HX10.out.trans (hHeld.mono HX10.out.size))).mono ?_
              rintro f w26 ⟨rfl, hb26⟩
              refine hK.out _ _ ?_ (fun hHeld => ?_)
              · exact hHeld.trans (hb26.mono hHeld.size)
              clear hK K
              try simp only [Act.put, List.setIfInBounds_toArray, List.set_cons_zero, List.set_cons_succ]
              refine held_take (i := 24) (fuel := 13) (v := ?_) (by rw [List.getElem?_toArray]; rfl) (by kernel_rfl) (by kernel_rfl) (by kernel_rfl) hHeld ?_ ?_ ?_ ?_
              rotate_left
              · intro u hSw
                go_simp
                try with_reducible rfl
              · rfl
              · exact fun _ _ _ h => h
              try simp only [Act.put, List.setIfInBounds_toArray, List.set_cons_zero, List.set_cons_succ]
              refine held_take (i := 25) (fuel := 12) (v := ?_) (by rw [List.getElem?_toArray]; rfl) (by kernel_rfl) (by kernel_rfl) (by kernel_rfl) hHeld ?_ ?_ ?_ ?_
              rotate_left
              · intro u hSw
                go_simp
                try with_reducible rfl
              · rfl
              · exact fun _ _ _ h => h
              try simp only [Act.put, List.setIfInBounds_toArray, List.set_cons_zero, List.set_cons_succ]
              refine held_take (i := 26) (fuel := 11) (v := ?_) (by rw [List.getElem?_toArray]; rfl) (by kernel_rfl) (by kernel_rfl) (by kernel_rfl) hHeld ?_ ?_ ?_ ?_
              rotate_left
              · intro u hSw
                go_simp
                try with_reducible rfl
              · rfl
              · exact fun _ _ _ h => h
              try simp only [Act.put, List.setIfInBounds_toArray, List.set_cons_zero, List.set_cons_succ]
              refine held_take (i := 28) (fuel := 10) (v := ?_) (by rw [List.getElem?_toArray]; rfl) (by kernel_rfl) (by kernel_rfl) (by kernel_rfl) hHeld ?_ ?_ ?_ ?_
              rotate_left
              · intro u hSw
                go_simp
                try with_reducible rfl
              · rfl
              · exact fun _ _ _ h => h
              try simp only [Act.put, List.setIfInBounds_toArray, List.set_cons_zero, List.set_cons_succ]
              refine held_one (i := 27) (fuel := 9) (by kernel_rfl) (by rw [List.getElem?_toArray]; rfl) (fun K hK => ?_)
              go_simp
              refine (DL.out _ (HX10.out.trans (hHeld.mono HX10.out.size))).mono ?_
              rintro f w27 ⟨rfl, hb27⟩
              refine hK.out _ _ ?_ (fun hHeld => ?_)
              · exact hHeld.trans (hb27.mono hHeld.size)
              clear hK K
              try simp only [Act.put, List.setIfInBounds_toArray, List.set_cons_zero, List.set_cons_succ]
              refine held_one (i := 29) (fuel := 8) (by kernel_rfl) (by rw [List.getElem?_toArray]; rfl) (fun K hK => ?_)
              go_simp
              refine (DM.out _ (HX10.out.trans (hHeld.mono HX10.out.size))).mono ?_
              rintro f w28 ⟨rfl, hb28⟩
              refine hK.out _ _ ?_ (fun hHeld => ?_)
              · exact hHeld.trans (hb28.mono hHeld.size)
              clear hK K
              try simp only [Act.put, List.setIfInBounds_toArray, List.set_cons_zero, List.set_cons_succ]
              refine held_take (i := 30) (fuel := 7) (v := ?_) (by rw [List.getElem?_toArray]; rfl) (by kernel_rfl) (by kernel_rfl) (by kernel_rfl) hHeld ?_ ?_ ?_ ?_
              rotate_left
              · intro u hSw
                go_simp
                try with_reducible rfl
              · rfl
              · exact fun _ _ _ h => h
              try simp only [Act.put, List.setIfInBounds_toArray, List.set_cons_zero, List.set_cons_succ]
              refine held_take (i := 31) (fuel := 6) (v := ?_) (by rw [List.getElem?_toArray]; rfl) (by kernel_rfl) (by kernel_rfl) (by kernel_rfl) hHeld ?_ ?_ ?_ ?_
              rotate_left
              · intro u hSw
                go_simp
                try with_reducible rfl
              · rfl
              · exact fun _ _ _ h => h
              try simp only [Act.put, List.setIfInBounds_toArray, List.set_cons_zero, List.set_cons_succ]
              refine held_take (i := 32) (fuel := 5) (v := ?_) (by rw [List.getElem?_toArray]; rfl) (by kernel_rfl) (by kernel_rfl) (by kernel_rfl) hHeld ?_ ?_ ?_ ?_
              rotate_left
              · intro u hSw
                go_simp
                try with_reducible rfl
              · rfl
              · exact fun _ _ _ h => h
              try simp only [Act.put, List.setIfInBounds_toArray, List.set_cons_zero, List.set_cons_succ]
              refine held_take (i := 33) (fuel := 4) (v := ?_) (by rw [List.getElem?_toArray]; rfl) (by kernel_rfl) (by kernel_rfl) (by kernel_rfl) hHeld ?_ ?_ ?_ ?_
              rotate_left
              · intro u hSw
                go_simp
                try with_reducible rfl
              · rfl
              · exact fun _ _ _ h => h
              try simp only [Act.put, List.setIfInBounds_toArray, List.set_cons_zero, List.set_cons_succ]
              refine held_take (i := 34) (fuel := 3) (v := ?_) (by rw [List.getElem?_toArray]; rfl) (by kernel_rfl) (by kernel_rfl) (by kernel_rfl) hHeld ?_ ?_ ?_ ?_
              rotate_left
              · intro u hSw
                go_simp
                try with_reducible rfl
              · rfl
              · exact fun _ _ _ h => h
              try simp only [Act.put, List.setIfInBounds_toArray, List.set_cons_zero, List.set_cons_succ]
              refine held_one (i := 35) (fuel := 2) (by kernel_rfl) (by rw [List.getElem?_toArray]; rfl) (fun K hK => ?_)
              go_simp
              refine (awake_any _).mono ?_
              rintro f w30 ⟨rfl, hb30⟩
              refine hK.out _ _ ?_ (fun hHeld => ?_)
              · exact hHeld.trans (hb30.mono hHeld.size)
              clear hK K
              try simp only [Act.put, List.setIfInBounds_toArray, List.set_cons_zero, List.set_cons_succ]
              refine held_take (i := 36) (fuel := 1) (v := ?_) (by rw [List.getElem?_toArray]; rfl) (by kernel_rfl) (by kernel_rfl) (by kernel_rfl) hHeld ?_ ?_ ?_ ?_
              rotate_left
              · intro u hSw
                go_simp
                try with_reducible rfl
              · rfl
              · exact fun _ _ _ h => h
              try simp only [Act.put, List.setIfInBounds_toArray, List.set_cons_zero, List.set_cons_succ]
              refine held_take (i := 37) (fuel := 0) (v := ?_) (by rw [List.getElem?_toArray]; rfl) (by kernel_rfl) (by kernel_rfl) (by kernel_rfl) hHeld ?_ ?_ ?_ ?_
              rotate_left
              · intro u hSw
                go_simp
                try with_reducible rfl
              · rfl
              · exact fun _ _ _ h => h
              try simp only [Act.put, List.setIfInBounds_toArray, List.set_cons_zero, List.set_cons_succ]
              refine wpAnyH_done (by kernel_rfl) ?_ _
              have HF := Lib.hid (HX10.out.trans (hHeld.mono HX10.out.size))
              go_wp2_with fail
              go_ret
              exact ⟨rfl, HF.out⟩
          | true =>
            cases d with
            | false =>
              have ZX := Lib.hid (E1.out HZ1.out)
              have ZY := Lib.hid (E2.out (by first | rfl | trivial) HZ2.out)
              have DX := E3
              have DY := Lib.hid (E4.out (by first | rfl | trivial))
              go_wp2_with fail
              refine wp_region_held_drew (S := Below w10.heap.size w10) (by kernel_rfl) (Below.refl _ _).drew (fun hHeld => ?_)
              refine held_take (i := 0) (fuel := 37) (v := ?_) (by rw [List.getElem?_toArray]; rfl) (by kernel_rfl) (by kernel_rfl) (by kernel_rfl) hHeld ?_ ?_ ?_ ?_
              rotate_left
              · intro u hSw
                go_simp
                try with_reducible rfl
              · rfl
              · exact fun _ _ _ h => h
              try simp only [Act.put, List.setIfInBounds_toArray, List.set_cons_zero, List.set_cons_succ]
              refine held_take (i := 1) (fuel := 36) (v := ?_) (by rw [List.getElem?_toArray]; rfl) (by kernel_rfl) (by kernel_rfl) (by kernel_rfl) hHeld ?_ ?_ ?_ ?_
              rotate_left
              · intro u hSw
                go_simp
                try with_reducible rfl
              · rfl
              · exact fun _ _ _ h => h
              try simp only [Act.put, List.setIfInBounds_toArray, List.set_cons_zero, List.set_cons_succ]
              refine held_take (i := 2) (fuel := 35) (v := ?_) (by rw [List.getElem?_toArray]; rfl) (by kernel_rfl) (by kernel_rfl) (by kernel_rfl) hHeld ?_ ?_ ?_ ?_
              rotate_left
              · intro u hSw
                go_simp
                try with_reducible rfl
              · rfl
              · exact fun _ _ _ h => h
              try simp only [Act.put, List.setIfInBounds_toArray, List.set_cons_zero, List.set_cons_succ]
              refine held_take (i := 3) (fuel := 34) (v := ?_) (by rw [List.getElem?_toArray]; rfl) (by kernel_rfl) (by kernel_rfl) (by kernel_rfl) hHeld ?_ ?_ ?_ ?_
              rotate_left
              · intro u hSw
                obtain ⟨c0, c1, c2, c3, c4⟩ := hcx2.out u hSw
                go_simp
                try with_reducible rfl
              · rfl
              · exact fun _ _ _ h => h
              try simp only [Act.put, List.setIfInBounds_toArray, List.set_cons_zero, List.set_cons_succ]
              refine held_take (i := 5) (fuel := 33) (v := ?_) (by rw [List.getElem?_toArray]; rfl) (by kernel_rfl) (by kernel_rfl) (by kernel_rfl) hHeld ?_ ?_ ?_ ?_
              rotate_left
              · intro u hSw
                obtain ⟨c0, c1, c2, c3, c4⟩ := hcy2.out u hSw
                go_simp
                try with_reducible rfl
              · rfl
              · exact fun _ _ _ h => h
              try simp only [Act.put, List.setIfInBounds_toArray, List.set_cons_zero, List.set_cons_succ]
              refine held_one (i := 4) (fuel := 32) (by kernel_rfl) (by rw [List.getElem?_toArray]; rfl) (fun K hK => ?_)
              go_simp
              refine (ZX.out _ (HX10.out.trans (hHeld.mono HX10.out.size))).mono ?_
              rintro f w21 ⟨rfl, hb21⟩
              refine hK.out _ _ ?_ (fun hHeld => ?_)
              · exact hHeld.trans (hb21.mono hHeld.size)
              clear hK K
              try simp only [Act.put, List.setIfInBounds_toArray, List.set_cons_zero, List.set_cons_succ]
              refine held_one (i := 6) (fuel := 31) (by kernel_rfl) (by rw [List.getElem?_toArray]; rfl) (fun K hK => ?_)
              go_simp
              refine (ZY.out _ (HX10.out.trans (hHeld.mono HX10.out.size))).mono ?_
              rintro f w22 ⟨rfl, hb22⟩
              refine hK.out _ _ ?_ (fun hHeld => ?_)
              · exact hHeld.trans (hb22.mono hHeld.size)
              clear hK K
              try simp only [Act.put, List.setIfInBounds_toArray, List.set_cons_zero, List.set_cons_succ]
              refine held_take (i := 7) (fuel := 30) (v := ?_) (by rw [List.getElem?_toArray]; rfl) (by kernel_rfl) (by kernel_rfl) (by kernel_rfl) hHeld ?_ ?_ ?_ ?_
              rotate_left
              · intro u hSw
                go_simp
                try with_reducible rfl
              · rfl
              · exact fun _ _ _ h => h
              try simp only [Act.put, List.setIfInBounds_toArray, List.set_cons_zero, List.set_cons_succ]
              refine held_take (i := 8) (fuel := 29) (v := ?_) (by rw [List.getElem?_toArray]; rfl) (by kernel_rfl) (by kernel_rfl) (by kernel_rfl) hHeld ?_ ?_ ?_ ?_
              rotate_left
              · intro u hSw
                go_simp
                try with_reducible rfl
              · rfl
              · exact fun _ _ _ h => h
              try simp only [Act.put, List.setIfInBounds_toArray, List.set_cons_zero, List.set_cons_succ]
              refine held_take (i := 9) (fuel := 28) (v := ?_) (by rw [List.getElem?_toArray]; rfl) (by kernel_rfl) (by kernel_rfl) (by kernel_rfl) hHeld ?_ ?_ ?_ ?_
              rotate_left
              · intro u hSw
                obtain ⟨c0, c1, c2, c3, c4⟩ := hcx2.out u hSw
                go_simp
                try with_reducible rfl
              · rfl
              · exact fun _ _ _ h => h
              try simp only [Act.put, List.setIfInBounds_toArray, List.set_cons_zero, List.set_cons_succ]
              refine held_take (i := 11) (fuel := 27) (v := ?_) (by rw [List.getElem?_toArray]; rfl) (by kernel_rfl) (by kernel_rfl) (by kernel_rfl) hHeld ?_ ?_ ?_ ?_
              rotate_left
              · intro u hSw
                obtain ⟨c0, c1, c2, c3, c4⟩ := hcy2.out u hSw
                go_simp
                try with_reducible rfl
              · rfl
              · exact fun _ _ _ h => h
              try simp only [Act.put, List.setIfInBounds_toArray, List.set_cons_zero, List.set_cons_succ]
              refine held_one (i := 10) (fuel := 26) (by kernel_rfl) (by rw [List.getElem?_toArray]; rfl) (fun K hK => ?_)
              go_simp
              refine (DX.out _ (HX10.out.trans (hHeld.mono HX10.out.size))).mono ?_
              rintro f w23 ⟨rfl, hb23⟩
              refine hK.out _ _ ?_ (fun hHeld => ?_)
              · exact hHeld.trans (hb23.mono hHeld.size)
              clear hK K
              try simp only [Act.put, List.setIfInBounds_toArray, List.set_cons_zero, List.set_cons_succ]
              refine held_one (i := 12) (fuel := 25) (by kernel_rfl) (by rw [List.getElem?_toArray]; rfl) (fun K hK => ?_)
              go_simp
              refine (DY.out _ (HX10.out.trans (hHeld.mono HX10.out.size))).mono ?_
              rintro f w24 ⟨rfl, hb24⟩
              refine hK.out _ _ ?_ (fun hHeld => ?_)
              · exact hHeld.trans (hb24.mono hHeld.size)
              clear hK K
              try simp only [Act.put, List.setIfInBounds_toArray, List.set_cons_zero, List.set_cons_succ]
              refine held_take (i := 13) (fuel := 24) (v := ?_) (by rw [List.getElem?_toArray]; rfl) (by kernel_rfl) (by kernel_rfl) (by kernel_rfl) hHeld ?_ ?_ ?_ ?_
              rotate_left
              · intro u hSw
                go_simp
                try with_reducible rfl
              · rfl
              · exact fun _ _ _ h => h
              try simp only [Act.put, List.setIfInBounds_toArray, List.set_cons_zero, List.set_cons_succ]
              refine held_take (i := 14) (fuel := 23) (v := ?_) (by rw [List.getElem?_toArray]; rfl) (by kernel_rfl) (by kernel_rfl) (by kernel_rfl) hHeld ?_ ?_ ?_ ?_
              rotate_left
              · intro u hSw
                go_simp
                try with_reducible rfl
              · rfl
              · exact fun _ _ _ h => h
              try simp only [Act.put, List.setIfInBounds_toArray, List.set_cons_zero, List.set_cons_succ]
              refine held_take (i := 15) (fuel := 22) (v := ?_) (by rw [List.getElem?_toArray]; rfl) (by kernel_rfl) (by kernel_rfl) (by kernel_rfl) hHeld ?_ ?_ ?_ ?_
              rotate_left
              · intro u hSw
                go_simp
                try with_reducible rfl
              · rfl
              · exact fun _ _ _ h => h
              try simp only [Act.put, List.setIfInBounds_toArray, List.set_cons_zero, List.set_cons_succ]
              refine held_take (i := 16) (fuel := 21) (v := ?_) (by rw [List.getElem?_toArray]; rfl) (by kernel_rfl) (by kernel_rfl) (by kernel_rfl) hHeld ?_ ?_ ?_ ?_
              rotate_left
              · intro u hSw
                go_simp
                try with_reducible rfl
              · rfl
              · exact fun _ _ _ h => h
              try simp only [Act.put, List.setIfInBounds_toArray, List.set_cons_zero, List.set_cons_succ]
              refine held_take (i := 17) (fuel := 20) (v := ?_) (by rw [List.getElem?_toArray]; rfl) (by kernel_rfl) (by kernel_rfl) (by kernel_rfl) hHeld ?_ ?_ ?_ ?_
              rotate_left
              · intro u hSw
                go_simp
                try with_reducible rfl
              · rfl
              · exact fun _ _ _ h => h
              try simp only [Act.put, List.setIfInBounds_toArray, List.set_cons_zero, List.set_cons_succ]
              refine held_take (i := 18) (fuel := 19) (v := ?_) (by rw [List.getElem?_toArray]; rfl) (by kernel_rfl) (by kernel_rfl) (by kernel_rfl) hHeld ?_ ?_ ?_ ?_
              rotate_left
              · intro u hSw
                go_simp
                try with_reducible rfl
              · rfl
              · exact fun _ _ _ h => h
              try simp only [Act.put, List.setIfInBounds_toArray, List.set_cons_zero, List.set_cons_succ]
              refine held_take (i := 19) (fuel := 18) (v := ?_) (by rw [List.getElem?_toArray]; rfl) (by kernel_rfl) (by kernel_rfl) (by kernel_rfl) hHeld ?_ ?_ ?_ ?_
              rotate_left
              · intro u hSw
                go_simp
                try with_reducible rfl
              · rfl
              · exact fun _ _ _ h => h
              try simp only [Act.put, List.setIfInBounds_toArray, List.set_cons_zero, List.set_cons_succ]
              refine held_skip (i := 20) (fuel := 17) (by rw [List.getElem?_toArray]; rfl) (by kernel_rfl) (by kernel_rfl) (by kernel_rfl) hHeld ?_ ?_ ?_
              · rfl
              · exact fun _ _ _ h => h
              try simp only [Act.put, List.setIfInBounds_toArray, List.set_cons_zero, List.set_cons_succ]
              refine held_skip (i := 21) (fuel := 16) (by rw [List.getElem?_toArray]; rfl) (by kernel_rfl) (by kernel_rfl) (by kernel_rfl) hHeld ?_ ?_ ?_
              · rfl
              · exact fun _ _ _ h => h
              try simp only [Act.put, List.setIfInBounds_toArray, List.set_cons_zero, List.set_cons_succ]
              refine held_skip (i := 22) (fuel := 15) (by rw [List.getElem?_toArray]; rfl) (by kernel_rfl) (by kernel_rfl) (by kernel_rfl) hHeld ?_ ?_ ?_
              · rfl
              · exact fun _ _ _ h => h
              try simp only [Act.put, List.setIfInBounds_toArray, List.set_cons_zero, List.set_cons_succ]
              refine held_skip (i := 23) (fuel := 14) (by rw [List.getElem?_toArray]; rfl) (by kernel_rfl) (by kernel_rfl) (by kernel_rfl) hHeld ?_ ?_ ?_
              · rfl
              · exact fun _ _ _ h => h
              try simp only [Act.put, List.setIfInBounds_toArray, List.set_cons_zero, List.set_cons_succ]
              refine held_skip (i := 24) (fuel := 13) (by rw [List.getElem?_toArray]; rfl) (by kernel_rfl) (by kernel_rfl) (by kernel_rfl) hHeld ?_ ?_ ?_
              · rfl
              · exact fun _ _ _ h => h
              try simp only [Act.put, List.setIfInBounds_toArray, List.set_cons_zero, List.set_cons_succ]
              refine held_skip (i := 25) (fuel := 12) (by rw [List.getElem?_toArray]; rfl) (by kernel_rfl) (by kernel_rfl) (by kernel_rfl) hHeld ?_ ?_ ?_
              · rfl
              · exact fun _ _ _ h => h
              try simp only [Act.put, List.setIfInBounds_toArray, List.set_cons_zero, List.set_cons_succ]
              refine held_skip (i := 26) (fuel := 11) (by rw [List.getElem?_toArray]; rfl) (by kernel_rfl) (by kernel_rfl) (by kernel_rfl) hHeld ?_ ?_ ?_
              · rfl
              · exact fun _ _ _ h => h
              try simp only [Act.put, List.setIfInBounds_toArray, List.set_cons_zero, List.set_cons_succ]
              refine held_skip (i := 27) (fuel := 10) (by rw [List.getElem?_toArray]; rfl) (by kernel_rfl) (by kernel_rfl) (by kernel_rfl) hHeld ?_ ?_ ?_
              · rfl
              · exact fun _ _ _ h => h
              try simp only [Act.put, List.setIfInBounds_toArray, List.set_cons_zero, List.set_cons_succ]
              refine held_skip (i := 28) (fuel := 9) (by rw [List.getElem?_toArray]; rfl) (by kernel_rfl) (by kernel_rfl) (by kernel_rfl) hHeld ?_ ?_ ?_
              · rfl
              · exact fun _ _ _ h => h
              try simp only [Act.put, List.setIfInBounds_toArray, List.set_cons_zero, List.set_cons_succ]
              refine held_skip (i := 29) (fuel := 8) (by rw [List.getElem?_toArray]; rfl) (by kernel_rfl) (by kernel_rfl) (by kernel_rfl) hHeld ?_ ?_ ?_
              · rfl
              · exact fun _ _ _ h => h
              try simp only [Act.put, List.setIfInBounds_toArray, List.set_cons_zero, List.set_cons_succ]
              refine held_skip (i := 30) (fuel := 7) (by rw [List.getElem?_toArray]; rfl) (by kernel_rfl) (by kernel_rfl) (by kernel_rfl) hHeld ?_ ?_ ?_
              · rfl
              · exact fun _ _ _ h => h
              try simp only [Act.put, List.setIfInBounds_toArray, List.set_cons_zero, List.set_cons_succ]
              refine held_skip (i := 31) (fuel := 6) (by rw [List.getElem?_toArray]; rfl) (by kernel_rfl) (by kernel_rfl) (by kernel_rfl) hHeld ?_ ?_ ?_
              · rfl
              · exact fun _ _ _ h => h
              try simp only [Act.put, List.setIfInBounds_toArray, List.set_cons_zero, List.set_cons_succ]
              refine held_take (i := 32) (fuel := 5) (v := ?_) (by rw [List.getElem?_toArray]; rfl) (by kernel_rfl) (by kernel_rfl) (by kernel_rfl) hHeld ?_ ?_ ?_ ?_
              rotate_left
              · intro u hSw
                go_simp
                try with_reducible rfl
              · rfl
              · exact fun _ _ _ h => h
              try simp only [Act.put, List.setIfInBounds_toArray, List.set_cons_zero, List.set_cons_succ]
              refine held_take (i := 33) (fuel := 4) (v := ?_) (by rw [List.getElem?_toArray]; rfl) (by kernel_rfl) (by kernel_rfl) (by kernel_rfl) hHeld ?_ ?_ ?_ ?_
              rotate_left
              · intro u hSw
                go_simp
                try with_reducible rfl
              · rfl
              · exact fun _ _ _ h => h
              try simp only [Act.put, List.setIfInBounds_toArray, List.set_cons_zero, List.set_cons_succ]
              refine held_take (i := 34) (fuel := 3) (v := ?_) (by rw [List.getElem?_toArray]; rfl) (by kernel_rfl) (by kernel_rfl) (by kernel_rfl) hHeld ?_ ?_ ?_ ?_
              rotate_left
              · intro u hSw
                go_simp
                try with_reducible rfl
              · rfl
              · exact fun _ _ _ h => h
              try simp only [Act.put, List.setIfInBounds_toArray, List.set_cons_zero, List.set_cons_succ]
              refine held_one (i := 35) (fuel := 2) (by kernel_rfl) (by rw [List.getElem?_toArray]; rfl) (fun K hK => ?_)
              go_simp
              refine (awake_any _).mono ?_
              rintro f w30 ⟨rfl, hb30⟩
              refine hK.out _ _ ?_ (fun hHeld => ?_)
              · exact hHeld.trans (hb30.mono hHeld.size)
              clear hK K
              try simp only [Act.put, List.setIfInBounds_toArray, List.set_cons_zero, List.set_cons_succ]
              refine held_take (i := 36) (fuel := 1) (v := ?_) (by rw [List.getElem?_toArray]; rfl) (by kernel_rfl) (by kernel_rfl) (by kernel_rfl) hHeld ?_ ?_ ?_ ?_
              rotate_left
              · intro u hSw
                go_simp
                try with_reducible rfl
              · rfl
              · exact fun _ _ _ h => h
              try simp only [Act.put, List.setIfInBounds_toArray, List.set_cons_zero, List.set_cons_succ]
              refine held_take (i := 37) (fuel := 0) (v := ?_) (by rw [List.getElem?_toArray]; rfl) (by kernel_rfl) (by kernel_rfl) (by kernel_rfl) hHeld ?_ ?_ ?_ ?_
              rotate_left
              · intro u hSw
                go_simp
                try with_reducible rfl
              · rfl
              · exact fun _ _ _ h => h
              try simp only [Act.put, List.setIfInBounds_toArray, List.set_cons_zero, List.set_cons_succ]
              refine wpAnyH_done (by kernel_rfl) ?_ _
              have HF := Lib.hid (HX10.out.trans (hHeld.mono HX10.out.size))
              go_wp2_with fail
              go_ret
              exact ⟨rfl, HF.out⟩
            | true =>
              have ZX := Lib.hid (E1.out HZ1.out)
              have ZY := Lib.hid (E2.out (by first | rfl | trivial) HZ2.out)
              have DX := E3
              have DY := Lib.hid (E4.out (by first | rfl | trivial))
              have ZL := Lib.hid (E5.out HZ3.out)
              have ZM := Lib.hid (E6.out (by first | rfl | trivial) HZ4.out)
              have DL := E7
              have DM := Lib.hid (E8.out (by first | rfl | trivial))
              go_wp2_with fail
              refine wp_region_held_drew (S := Below w10.heap.size w10) (by kernel_rfl) (Below.refl _ _).drew (fun hHeld => ?_)
              refine held_take (i := 0) (fuel := 37) (v := ?_) (by rw [List.getElem?_toArray]; rfl) (by kernel_rfl) (by kernel_rfl) (by kernel_rfl) hHeld ?_ ?_ ?_ ?_
              rotate_left
              · intro u hSw
                go_simp
                try with_reducible rfl
              · rfl
              · exact fun _ _ _ h => h
              try simp only [Act.put, List.setIfInBounds_toArray, List.set_cons_zero, List.set_cons_succ]
              refine held_take (i := 1) (fuel := 36) (v := ?_) (by rw [List.getElem?_toArray]; rfl) (by kernel_rfl) (by kernel_rfl) (by kernel_rfl) hHeld ?_ ?_ ?_ ?_
              rotate_left
              · intro u hSw
                go_simp
                try with_reducible rfl
              · rfl
              · exact fun _ _ _ h => h
              try simp only [Act.put, List.setIfInBounds_toArray, List.set_cons_zero, List.set_cons_succ]
              refine held_take (i := 2) (fuel := 35) (v := ?_) (by rw [List.getElem?_toArray]; rfl) (by kernel_rfl) (by kernel_rfl) (by kernel_rfl) hHeld ?_ ?_ ?_ ?_
              rotate_left
              · intro u hSw
                go_simp
                try with_reducible rfl
              · rfl
              · exact fun _ _ _ h => h
              try simp only [Act.put, List.setIfInBounds_toArray, List.set_cons_zero, List.set_cons_succ]
              refine held_take (i := 3) (fuel := 34) (v := ?_) (by rw [List.getElem?_toArray]; rfl) (by kernel_rfl) (by kernel_rfl) (by kernel_rfl) hHeld ?_ ?_ ?_ ?_
              rotate_left
              · intro u hSw
                obtain ⟨c0, c1, c2, c3, c4⟩ := hcx2.out u hSw
                go_simp
                try with_reducible rfl
              · rfl
              · exact fun _ _ _ h => h
              try simp only [Act.put, List.setIfInBounds_toArray, List.set_cons_zero, List.set_cons_succ]
              refine held_take (i := 5) (fuel := 33) (v := ?_) (by rw [List.getElem?_toArray]; rfl) (by kernel_rfl) (by kernel_rfl) (by kernel_rfl) hHeld ?_ ?_ ?_ ?_
              rotate_left
              · intro u hSw
                obtain ⟨c0, c1, c2, c3, c4⟩ := hcy2.out u hSw
                go_simp
                try with_reducible rfl
              · rfl
              · exact fun _ _ _ h => h
              try simp only [Act.put, List.setIfInBounds_toArray, List.set_cons_zero, List.set_cons_succ]
              refine held_one (i := 4) (fuel := 32) (by kernel_rfl) (by rw [List.getElem?_toArray]; rfl) (fun K hK => ?_)
              go_simp
              refine (ZX.out _ (HX10.out.trans (hHeld.mono HX10.out.size))).mono ?_
              rintro f w21 ⟨rfl, hb21⟩
              refine hK.out _ _ ?_ (fun hHeld => ?_)
              · exact hHeld.trans (hb21.mono hHeld.size)
              clear hK K
              try simp only [Act.put, List.setIfInBounds_toArray, List.set_cons_zero, List.set_cons_succ]
              refine held_one (i := 6) (fuel := 31) (by kernel_rfl) (by rw [List.getElem?_toArray]; rfl) (fun K hK => ?_)
              go_simp
              refine (ZY.out _ (HX10.out.trans (hHeld.mono HX10.out.size))).mono ?_
              rintro f w22 ⟨rfl, hb22⟩
              refine hK.out _ _ ?_ (fun hHeld => ?_)
              · exact hHeld.trans (hb22.mono hHeld.size)
              clear hK K
              try simp only [Act.put, List.setIfInBounds_toArray, List.set_cons_zero, List.set_cons_succ]
              refine held_take (i := 7) (fuel := 30) (v := ?_) (by rw [List.getElem?_toArray]; rfl) (by kernel_rfl) (by kernel_rfl) (by kernel_rfl) hHeld ?_ ?_ ?_ ?_
              rotate_left
              · intro u hSw
                go_simp
                try with_reducible rfl
              · rfl
              · exact fun _ _ _ h => h
              try simp only [Act.put, List.setIfInBounds_toArray, List.set_cons_zero, List.set_cons_succ]
              refine held_take (i := 8) (fuel := 29) (v := ?_) (by rw [List.getElem?_toArray]; rfl) (by kernel_rfl) (by kernel_rfl) (by kernel_rfl) hHeld ?_ ?_ ?_ ?_
              rotate_left
              · intro u hSw
                go_simp
                try with_reducible rfl
              · rfl
              · exact fun _ _ _ h => h
              try simp only [Act.put, List.setIfInBounds_toArray, List.set_cons_zero, List.set_cons_succ]
              refine held_take (i := 9) (fuel := 28) (v := ?_) (by rw [List.getElem?_toArray]; rfl) (by kernel_rfl) (by kernel_rfl) (by kernel_rfl) hHeld ?_ ?_ ?_ ?_
              rotate_left
              · intro u hSw
                obtain ⟨c0, c1, c2, c3, c4⟩ := hcx2.out u hSw
                go_simp
                try with_reducible rfl
              · rfl
              · exact fun _ _ _ h => h
              try simp only [Act.put, List.setIfInBounds_toArray, List.set_cons_zero, List.set_cons_succ]
              refine held_take (i := 11) (fuel := 27) (v := ?_) (by rw [List.getElem?_toArray]; rfl) (by kernel_rfl) (by kernel_rfl) (by kernel_rfl) hHeld ?_ ?_ ?_ ?_
              rotate_left
              · intro u hSw
                obtain ⟨c0, c1, c2, c3, c4⟩ := hcy2.out u hSw
                go_simp
                try with_reducible rfl
              · rfl
              · exact fun _ _ _ h => h
              try simp only [Act.put, List.setIfInBounds_toArray, List.set_cons_zero, List.set_cons_succ]
              refine held_one (i := 10) (fuel := 26) (by kernel_rfl) (by rw [List.getElem?_toArray]; rfl) (fun K hK => ?_)
              go_simp
              refine (DX.out _ (HX10.out.trans (hHeld.mono HX10.out.size))).mono ?_
              rintro f w23 ⟨rfl, hb23⟩
              refine hK.out _ _ ?_ (fun hHeld => ?_)
              · exact hHeld.trans (hb23.mono hHeld.size)
              clear hK K
              try simp only [Act.put, List.setIfInBounds_toArray, List.set_cons_zero, List.set_cons_succ]
              refine held_one (i := 12) (fuel := 25) (by kernel_rfl) (by rw [List.getElem?_toArray]; rfl) (fun K hK => ?_)
              go_simp
              refine (DY.out _ (HX10.out.trans (hHeld.mono HX10.out.size))).mono ?_
              rintro f w24 ⟨rfl, hb24⟩
              refine hK.out _ _ ?_ (fun hHeld => ?_)
              · exact hHeld.trans (hb24.mono hHeld.size)
              clear hK K
              try simp only [Act.put, List.setIfInBounds_toArray, List.set_cons_zero, List.set_cons_succ]
              refine held_take (i := 13) (fuel := 24) (v := ?_) (by rw [List.getElem?_toArray]; rfl) (by kernel_rfl) (by kernel_rfl) (by kernel_rfl) hHeld ?_ ?_ ?_ ?_
              rotate_left
              · intro u hSw
                go_simp
                try with_reducible rfl
              · rfl
              · exact fun _ _ _ h => h
              try simp only [Act.put, List.setIfInBounds_toArray, List.set_cons_zero, List.set_cons_succ]
              refine held_take (i := 14) (fuel := 23) (v := ?_) (by rw [List.getElem?_toArray]; rfl) (by kernel_rfl) (by kernel_rfl) (by kernel_rfl) hHeld ?_ ?_ ?_ ?_
              rotate_left
              · intro u hSw
                go_simp
                try with_reducible rfl
              · rfl
              · exact fun _ _ _ h => h
              try simp only [Act.put, List.setIfInBounds_toArray, List.set_cons_zero, List.set_cons_succ]
              refine held_take (i := 15) (fuel := 22) (v := ?_) (by rw [List.getElem?_toArray]; rfl) (by kernel_rfl) (by kernel_rfl) (by kernel_rfl) hHeld ?_ ?_ ?_ ?_
              rotate_left
              · intro u hSw
                go_simp
                try with_reducible rfl
              · rfl
              · exact fun _ _ _ h => h
              try simp only [Act.put, List.setIfInBounds_toArray, List.set_cons_zero, List.set_cons_succ]
              refine held_take (i := 16) (fuel := 21) (v := ?_) (by rw [List.getElem?_toArray]; rfl) (by kernel_rfl) (by kernel_rfl) (by kernel_rfl) hHeld ?_ ?_ ?_ ?_
              rotate_left
              · intro u hSw
                go_simp
                try with_reducible rfl
              · rfl
              · exact fun _ _ _ h => h
              try simp only [Act.put, List.setIfInBounds_toArray, List.set_cons_zero, List.set_cons_succ]
              refine held_take (i := 17) (fuel := 20) (v := ?_) (by rw [List.getElem?_toArray]; rfl) (by kernel_rfl) (by kernel_rfl) (by kernel_rfl) hHeld ?_ ?_ ?_ ?_
              rotate_left
              · intro u hSw
                go_simp
                try with_reducible rfl
              · rfl
              · exact fun _ _ _ h => h
              try simp only [Act.put, List.setIfInBounds_toArray, List.set_cons_zero, List.set_cons_succ]
              refine held_take (i := 18) (fuel := 19) (v := ?_) (by rw [List.getElem?_toArray]; rfl) (by kernel_rfl) (by kernel_rfl) (by kernel_rfl) hHeld ?_ ?_ ?_ ?_
              rotate_left
              · intro u hSw
                go_simp
                try with_reducible rfl
              · rfl
              · exact fun _ _ _ h => h
              try simp only [Act.put, List.setIfInBounds_toArray, List.set_cons_zero, List.set_cons_succ]
              refine held_take (i := 19) (fuel := 18) (v := ?_) (by rw [List.getElem?_toArray]; rfl) (by kernel_rfl) (by kernel_rfl) (by kernel_rfl) hHeld ?_ ?_ ?_ ?_
              rotate_left
              · intro u hSw
                go_simp
                try with_reducible rfl
              · rfl
              · exact fun _ _ _ h => h
              try simp only [Act.put, List.setIfInBounds_toArray, List.set_cons_zero, List.set_cons_succ]
              refine held_take (i := 20) (fuel := 17) (v := ?_) (by rw [List.getElem?_toArray]; rfl) (by kernel_rfl) (by kernel_rfl) (by kernel_rfl) hHeld ?_ ?_ ?_ ?_
              rotate_left
              · intro u hSw
                go_simp
                try with_reducible rfl
              · rfl
              · exact fun _ _ _ h => h
              try simp only [Act.put, List.setIfInBounds_toArray, List.set_cons_zero, List.set_cons_succ]
              refine held_take (i := 22) (fuel := 16) (v := ?_) (by rw [List.getElem?_toArray]; rfl) (by kernel_rfl) (by kernel_rfl) (by kernel_rfl) hHeld ?_ ?_ ?_ ?_
              rotate_left
              · intro u hSw
                go_simp
                try with_reducible rfl
              · rfl
              · exact fun _ _ _ h => h
              try simp only [Act.put, List.setIfInBounds_toArray, List.set_cons_zero, List.set_cons_succ]
              refine held_one (i := 21) (fuel := 15) (by kernel_rfl) (by rw [List.getElem?_toArray]; rfl) (fun K hK => ?_)
              go_simp
              refine (ZL.out _ (HX10.out.trans (hHeld.mono HX10.out.size))).mono ?_
              rintro f w25 ⟨rfl, hb25⟩
              refine hK.out _ _ ?_ (fun hHeld => ?_)
              · exact hHeld.trans (hb25.mono hHeld.size)
              clear hK K
              try simp only [Act.put, List.setIfInBounds_toArray, List.set_cons_zero, List.set_cons_succ]
              refine held_one (i := 23) (fuel := 14) (by kernel_rfl) (by rw [List.getElem?_toArray]; rfl) (fun K hK => ?_)
              go_simp
              refine (ZM.out _ (HX10.out.trans (hHeld.mono HX10.out.size))).mono ?_
              rintro f w26 ⟨rfl, hb26⟩
              refine hK.out _ _ ?_ (fun hHeld => ?_)
              · exact hHeld.trans (hb26.mono hHeld.size)
              clear hK K
              try simp only [Act.put, List.setIfInBounds_toArray, List.set_cons_zero, List.set_cons_succ]
              refine held_take (i := 24) (fuel := 13) (v := ?_) (by rw [List.getElem?_toArray]; rfl) (by kernel_rfl) (by kernel_rfl) (by kernel_rfl) hHeld ?_ ?_ ?_ ?_
              rotate_left
              · intro u hSw
                go_simp
                try with_reducible rfl
              · rfl
              · exact fun _ _ _ h => h
              try simp only [Act.put, List.setIfInBounds_toArray, List.set_cons_zero, List.set_cons_succ]
              refine held_take (i := 25) (fuel := 12) (v := ?_) (by rw [List.getElem?_toArray]; rfl) (by kernel_rfl) (by kernel_rfl) (by kernel_rfl) hHeld ?_ ?_ ?_ ?_
              rotate_left
              · intro u hSw
                go_simp
                try with_reducible rfl
              · rfl
              · exact fun _ _ _ h => h
              try simp only [Act.put, List.setIfInBounds_toArray, List.set_cons_zero, List.set_cons_succ]
              refine held_take (i := 26) (fuel := 11) (v := ?_) (by rw [List.getElem?_toArray]; rfl) (by kernel_rfl) (by kernel_rfl) (by kernel_rfl) hHeld ?_ ?_ ?_ ?_
              rotate_left
              · intro u hSw
                go_simp
                try with_reducible rfl
              · rfl
              · exact fun _ _ _ h => h
              try simp only [Act.put, List.setIfInBounds_toArray, List.set_cons_zero, List.set_cons_succ]
              refine held_take (i := 28) (fuel := 10) (v := ?_) (by rw [List.getElem?_toArray]; rfl) (by kernel_rfl) (by kernel_rfl) (by kernel_rfl) hHeld ?_ ?_ ?_ ?_
              rotate_left
              · intro u hSw
                go_simp
                try with_reducible rfl
              · rfl
              · exact fun _ _ _ h => h
              try simp only [Act.put, List.setIfInBounds_toArray, List.set_cons_zero, List.set_cons_succ]
              refine held_one (i := 27) (fuel := 9) (by kernel_rfl) (by rw [List.getElem?_toArray]; rfl) (fun K hK => ?_)
              go_simp
              refine (DL.out _ (HX10.out.trans (hHeld.mono HX10.out.size))).mono ?_
              rintro f w27 ⟨rfl, hb27⟩
              refine hK.out _ _ ?_ (fun hHeld => ?_)
              · exact hHeld.trans (hb27.mono hHeld.size)
              clear hK K
              try simp only [Act.put, List.setIfInBounds_toArray, List.set_cons_zero, List.set_cons_succ]
              refine held_one (i := 29) (fuel := 8) (by kernel_rfl) (by rw [List.getElem?_toArray]; rfl) (fun K hK => ?_)
              go_simp
              refine (DM.out _ (HX10.out.trans (hHeld.mono HX10.out.size))).mono ?_
              rintro f w28 ⟨rfl, hb28⟩
              refine hK.out _ _ ?_ (fun hHeld => ?_)
              · exact hHeld.trans (hb28.mono hHeld.size)
              clear hK K
              try simp only [Act.put, List.setIfInBounds_toArray, List.set_cons_zero, List.set_cons_succ]
              refine held_take (i := 30) (fuel := 7) (v := ?_) (by rw [List.getElem?_toArray]; rfl) (by kernel_rfl) (by kernel_rfl) (by kernel_rfl) hHeld ?_ ?_ ?_ ?_
              rotate_left
              · intro u hSw
                go_simp
                try with_reducible rfl
              · rfl
              · exact fun _ _ _ h => h
              try simp only [Act.put, List.setIfInBounds_toArray, List.set_cons_zero, List.set_cons_succ]
              refine held_take (i := 31) (fuel := 6) (v := ?_) (by rw [List.getElem?_toArray]; rfl) (by kernel_rfl) (by kernel_rfl) (by kernel_rfl) hHeld ?_ ?_ ?_ ?_
              rotate_left
              · intro u hSw
                go_simp
                try with_reducible rfl
              · rfl
              · exact fun _ _ _ h => h
              try simp only [Act.put, List.setIfInBounds_toArray, List.set_cons_zero, List.set_cons_succ]
              refine held_take (i := 32) (fuel := 5) (v := ?_) (by rw [List.getElem?_toArray]; rfl) (by kernel_rfl) (by kernel_rfl) (by kernel_rfl) hHeld ?_ ?_ ?_ ?_
              rotate_left
              · intro u hSw
                go_simp
                try with_reducible rfl
              · rfl
              · exact fun _ _ _ h => h
              try simp only [Act.put, List.setIfInBounds_toArray, List.set_cons_zero, List.set_cons_succ]
              refine held_take (i := 33) (fuel := 4) (v := ?_) (by rw [List.getElem?_toArray]; rfl) (by kernel_rfl) (by kernel_rfl) (by kernel_rfl) hHeld ?_ ?_ ?_ ?_
              rotate_left
              · intro u hSw
                go_simp
                try with_reducible rfl
              · rfl
              · exact fun _ _ _ h => h
              try simp only [Act.put, List.setIfInBounds_toArray, List.set_cons_zero, List.set_cons_succ]
              refine held_take (i := 34) (fuel := 3) (v := ?_) (by rw [List.getElem?_toArray]; rfl) (by kernel_rfl) (by kernel_rfl) (by kernel_rfl) hHeld ?_ ?_ ?_ ?_
              rotate_left
              · intro u hSw
                go_simp
                try with_reducible rfl
              · rfl
              · exact fun _ _ _ h => h
              try simp only [Act.put, List.setIfInBounds_toArray, List.set_cons_zero, List.set_cons_succ]
              refine held_one (i := 35) (fuel := 2) (by kernel_rfl) (by rw [List.getElem?_toArray]; rfl) (fun K hK => ?_)
              go_simp
              refine (awake_any _).mono ?_
              rintro f w30 ⟨rfl, hb30⟩
              refine hK.out _ _ ?_ (fun hHeld => ?_)
              · exact hHeld.trans (hb30.mono hHeld.size)
              clear hK K
              try simp only [Act.put, List.setIfInBounds_toArray, List.set_cons_zero, List.set_cons_succ]
              refine held_take (i := 36) (fuel := 1) (v := ?_) (by rw [List.getElem?_toArray]; rfl) (by kernel_rfl) (by kernel_rfl) (by kernel_rfl) hHeld ?_ ?_ ?_ ?_
              rotate_left
              · intro u hSw
                go_simp
                try with_reducible rfl
              · rfl
              · exact fun _ _ _ h => h
              try simp only [Act.put, List.setIfInBounds_toArray, List.set_cons_zero, List.set_cons_succ]
              refine held_take (i := 37) (fuel := 0) (v := ?_) (by rw [List.getElem?_toArray]; rfl) (by kernel_rfl) (by kernel_rfl) (by kernel_rfl) hHeld ?_ ?_ ?_ ?_
              rotate_left
              · intro u hSw
                go_simp
                try with_reducible rfl
              · rfl
              · exact fun _ _ _ h => h
              try simp only [Act.put, List.setIfInBounds_toArray, List.set_cons_zero, List.set_cons_succ]
              refine wpAnyH_done (by kernel_rfl) ?_ _
              have HF := Lib.hid (HX10.out.trans (hHeld.mono HX10.out.size))
              go_wp2_with fail
              go_ret
              exact ⟨rfl, HF.out⟩

end Go.Proofs.Ytdmpadonnobeaaa
