/- Contracts of the reference's rightBlock, RightBlock. -/
import Derived.Test.YtdmpadonnobeaaaTreE
import Derived.Test.YtdmpadonnobeaaaTreI
import Derived.Test.YtdmpadonnobeaaaTreJ
namespace Go.Proofs.Ytdmpadonnobeaaa
open Go.RowKit
set_option linter.unusedSimpArgs false

theorem rightSs_all (nm : List UInt8 → Bool) : ∀ l : List SL, rightSs nm l = l.all (rightS nm) := by
  intro l
  induction l with
  | nil => unfold rightSs; rfl
  | cons x r ih => rw [rightSs_cons, ih, List.all_cons]
theorem all_no {α : Type} {p : α → Bool} {l : List α} {j : Nat} {d : α} (hj : j < l.length) (h : p (l[j]?.getD d) = false) : l.all p = false := by
  rw [Bool.eq_false_iff]
  intro e
  rw [List.all_eq_true] at e
  rw [List.getElem?_eq_getElem hj, Option.getD_some, e _ (List.getElem_mem hj)] at h
  cases h
theorem all_yes {α : Type} {p : α → Bool} {l : List α} {d : α} (h : ∀ j, j < l.length → p (l[j]?.getD d) = true) : l.all p = true := by
  rw [List.all_eq_true]
  intro x hx
  obtain ⟨j, hj, rfl⟩ := List.getElem_of_mem hx
  have := h j hj
  rwa [List.getElem?_eq_getElem hj] at this

theorem addr_zero (a : Addr) : a.add 0 = a := by unfold Addr.add; rw [if_pos rfl]

/-- what a statement needs, but its Args and its lists -/
def headS (nm : List UInt8 → Bool) (s : SL) : Bool := (shapeS s).1 && decide (s.num = 0) && decide (s.kind ≠ 23) && (!(shapeS s).2 || nm s.name) && (decide (s.kind ≠ 19) || decide ((s.args[0]?.getD nilE).kind = 9))
theorem rightS_head (nm : List UInt8 → Bool) (s : SL) : rightS nm s = (headS nm s && s.args.all (rightE nm (decide (s.kind = 1))) && rightBl nm s.body && rightBl nm s.els) := by
  rw [rightS_eq]
  unfold okS headS rightBl
  rfl
theorem shape_call {s : SL} (h : (shapeS s).1 = true) (hk : s.kind = 19) : s.args.length = 1 := by
  unfold shapeS at h
  simp [hk] at h
  unfold hasS at h
  simp at h
  exact h.1.1.1

/-- what rightBlock does, at a list of statements -/
def RightL (ss : List SL) : Prop := ∀ (A : Option Addr) (n c : Nat) (w : World), RowS6 w w.heap.size A n ss → SL.Ins w w.heap.size ss →
    Calls Try.prog 36 #[.slice A n c] w fun f w' => f = .returned (.bool (rightBl nmB ss)) ∧ Below w.heap.size w w'

set_option maxRecDepth 100000 in
set_option maxHeartbeats 6400000 in
theorem r10rightBlock_of (ss : List SL) (hS : ∀ x ∈ ss, RightL x.body ∧ RightL x.els) : RightL ss := by
  intro A n c w hA hAi
  have hn := hA.1
  have hn9 := hA.2.1
  have HL := Lib.hid hn
  have HR := Lib.hid hA
  have HA := Lib.hid hAi
  have HS := Lib.hid hS
  clear hn hA hAi hS
  go_enter Try.func36, Try.ntmps36
  go_wp2_with fail
  go_loopw [11] (fun vj wr => ∃ j : Nat, j ≤ n ∧ vj = .int .i64 j ∧ Hid (∀ i, i < j → rightS nmB (ss[i]?.getD nilS) = true) ∧ Hid (Below w.heap.size w wr)) (fun vj _ => n - (intOf vj).toNat)
  case atStart => exact ⟨0, Nat.zero_le _, rfl, Lib.hid (fun i hi => absurd hi (Nat.not_lt_zero _)), Lib.hid (Below.refl _ _)⟩
  case round =>
    obtain ⟨j, hj, rfl, HSO, HBR⟩ := hrel
    by_cases hlt : j < n
    · have hjl : j < ss.length := by rw [HL.out]; exact hlt
      have HJL := Lib.hid hjl
      clear hjl
      have hxjl : j < ss.length := by rw [HL.out]; exact hlt
      obtain ⟨xad, rfl, xab, xc⟩ := rowS_at (HR.out.below HBR.out) hlt
      have hx := HA.out.at hxjl
      have hxmem : (ss[j]?.getD nilS) ∈ ss := by rw [List.getElem?_eq_getElem hxjl]; exact List.getElem_mem _
      obtain ⟨x, hxe⟩ : ∃ x, x = ss[j]?.getD nilS := ⟨_, rfl⟩
      obtain ⟨a0, a1, a2, a3, a4, a5⟩ := xc x hxe
      rw [← hxe] at hx hxmem
      have HXx := Lib.hid hx
      have HEx := Lib.hid hxe
      have HMx := Lib.hid hxmem
      obtain ⟨hxp, hxq1, hxq2⟩ := hx.parts
      obtain ⟨hxs1, hxs2⟩ := HS.out _ hxmem
      obtain ⟨xk, xm, xs, xA, xn, xc', xes, xA1, xn1, xc1, xbo, xA2, xn2, xc2, xel⟩ := x
      change wr.cell? (xad.add (j * 6)) = some (.int .i64 xk) at a0
      change wr.cell? ⟨(xad.add (j * 6)).block, (xad.add (j * 6)).off + 1, none⟩ = some (.int .i64 xm) at a1
      change wr.cell? ⟨(xad.add (j * 6)).block, (xad.add (j * 6)).off + 2, none⟩ = some (.string (bs xs)) at a2
      change wr.cell? ⟨(xad.add (j * 6)).block, (xad.add (j * 6)).off + 3, none⟩ = some (.slice xA xn xc') at a3
      change wr.cell? ⟨(xad.add (j * 6)).block, (xad.add (j * 6)).off + 4, none⟩ = some (.slice xA1 xn1 xc1) at a4
      change wr.cell? ⟨(xad.add (j * 6)).block, (xad.add (j * 6)).off + 5, none⟩ = some (.slice xA2 xn2 xc2) at a5
      clear xc hxe hx hxmem hxjl
      have hxr0 : RowE w w.heap.size xA xn xes := hxp.2.2.1.1
      have hxi0 : EL.Ins w w.heap.size xes := hxp.2.2.1.2
      have hxr1 : RowS6 w w.heap.size xA1 xn1 xbo := hxp.2.2.2.1
      have hxr2 : RowS6 w w.heap.size xA2 xn2 xel := hxp.2.2.2.2
      have hxl : xes.length = xn := hxr0.1
      have hxn9 : (xn : Int) ≤ 9223372036854775807 := hxr0.2.1
      have hxs9 : (xs.length : Int) ≤ 9223372036854775807 := hxp.2.1
      have hsh : ∀ W : World, Below wr.heap.size wr W → Calls Try.prog 61 #[.agg #[.int .i64 xk, .int .i64 xm, .string (bs xs), .slice xA xn xc', .slice xA1 xn1 xc1, .slice xA2 xn2 xc2]] W fun f w' => f = .returned (.tuple #[.bool (shapeS (.mk xk xm xs xA xn xc' xes xA1 xn1 xc1 xbo xA2 xn2 xc2 xel)).1, .bool (shapeS (.mk xk xm xs xA xn xc' xes xA1 xn1 xc1 xbo xA2 xn2 xc2 xel)).2]) ∧ Below W.heap.size W w' := fun W hb => by
        have h1 := HBR.out.trans (hb.mono HBR.out.size)
        exact r10shape_any (.mk xk xm xs xA xn xc' xes xA1 xn1 xc1 xbo xA2 xn2 xc2 xel) W ((RowE.below hxr0 h1).more h1.size) ((RowS6.below hxr1 h1).more h1.size) ((RowS6.below hxr2 h1).more h1.size)
      have hnm : ∀ W : World, Calls Try.prog 57 #[.string (bs xs)] W fun f w' => f = .returned (.bool (nmB xs)) ∧ W = w' := fun W => by
        have := r10name_any W (bs xs) (by rw [bs_size]; exact hxs9)
        rwa [data_bs] at this
      have hcb : ∀ W : World, Below wr.heap.size wr W → Calls Try.prog 36 #[.slice xA1 xn1 xc1] W fun f w' => f = .returned (.bool (rightBl nmB xbo)) ∧ Below W.heap.size W w' := fun W hb => by
        have h1 := HBR.out.trans (hb.mono HBR.out.size)
        exact hxs1 xA1 xn1 xc1 W ((RowS6.below hxr1 h1).more h1.size) ((SL.Ins.below hxq1 h1).more h1.size)
      have hce : ∀ W : World, Below wr.heap.size wr W → Calls Try.prog 36 #[.slice xA2 xn2 xc2] W fun f w' => f = .returned (.bool (rightBl nmB xel)) ∧ Below W.heap.size W w' := fun W hb => by
        have h1 := HBR.out.trans (hb.mono HBR.out.size)
        exact hxs2 xA2 xn2 xc2 W ((RowS6.below hxr2 h1).more h1.size) ((SL.Ins.below hxq2 h1).more h1.size)
      obtain ⟨p1, hp1⟩ : ∃ p, p = (shapeS (.mk xk xm xs xA xn xc' xes xA1 xn1 xc1 xbo xA2 xn2 xc2 xel)).1 := ⟨_, rfl⟩
      obtain ⟨p2, hp2⟩ : ∃ p, p = (shapeS (.mk xk xm xs xA xn xc' xes xA1 xn1 xc1 xbo xA2 xn2 xc2 xel)).2 := ⟨_, rfl⟩
      obtain ⟨q, hq⟩ : ∃ q, q = nmB xs := ⟨_, rfl⟩
      obtain ⟨b1, hb1⟩ : ∃ b, b = rightBl nmB xbo := ⟨_, rfl⟩
      obtain ⟨b2, hb2⟩ : ∃ b, b = rightBl nmB xel := ⟨_, rfl⟩
      obtain ⟨bad, hg⟩ : ∃ g, g = !(p1 && decide (xm = 0) && decide (xk ≠ 23) && (!p2 || q) && (decide (xk ≠ 19) || decide ((xes[0]?.getD nilE).kind = 9))) := ⟨_, rfl⟩
      have hhd : headS nmB (.mk xk xm xs xA xn xc' xes xA1 xn1 xc1 xbo xA2 xn2 xc2 xel) = !bad := by rw [hg, Bool.not_not, hp1, hp2, hq]; rfl
      have hrs : rightS nmB (.mk xk xm xs xA xn xc' xes xA1 xn1 xc1 xbo xA2 xn2 xc2 xel) = (!bad && xes.all (rightE nmB (decide (xk = 1))) && b1 && b2) := by rw [rightS_head, hhd, hb1, hb2]; rfl
      rw [← hp1, ← hp2] at hsh
      rw [← hq] at hnm
      rw [← hb1] at hcb
      rw [← hb2] at hce
      have HSH := Lib.hid hsh
      have HNM := Lib.hid hnm
      have HCB := Lib.hid hcb
      have HCE := Lib.hid hce
      have HP1 := Lib.hid hp1
      have HG := Lib.hid hg
      have HRS := Lib.hid hrs
      have HXR := Lib.hid hxr0
      have HXI := Lib.hid hxi0
      have HXL := Lib.hid hxl
      have HNO : Hid (rightS nmB (.mk xk xm xs xA xn xc' xes xA1 xn1 xc1 xbo xA2 xn2 xc2 xel) = false → rightBl nmB ss = false) := Lib.hid (fun h => by
        unfold rightBl
        rw [rightSs_all, all_no (d := nilS) (j := j) HJL.out (by rw [← HEx.out]; exact h), Bool.false_and])
      clear hsh hnm hcb hce hp1 hp2 hq hb1 hb2 hg hhd hrs hxp hxq1 hxq2 hxs1 hxs2 hxr0 hxi0 hxr1 hxr2 hxl hxs9
      obtain ⟨gs, hgs⟩ : ∃ gs, gs = wr.heap.size := ⟨_, rfl⟩
      go_wp2_with (refine wpList_store_row rfl 47 _ _ rfl wr.heap.size #[.int .i64 xk, .int .i64 xm, .string (bs xs), .slice xA xn xc', .slice xA1 xn1 xc1, .slice xA2 xn2 xc2] rfl rfl _ _ (Blk.new wr _ _) stmt_size rfl (stmt_one _ _ _ _ _ _ _ _ _ _ _ _) ?_; obtain ⟨V, hV⟩ : ∃ V, V = (wr.alloc (.cells #[.int .i64 0, .int .i64 0, .string ⟨#[]⟩, .slice none 0 0, .slice none 0 0, .slice none 0 0] 47)).setRow wr.heap.size #[.int .i64 xk, .int .i64 xm, .string (bs xs), .slice xA xn xc', .slice xA1 xn1 xc1, .slice xA2 xn2 xc2] := ⟨_, rfl⟩; rw [← hV]; obtain ⟨hkV, hbV⟩ := put_row hV; have HKV := Lib.hid hkV; have HBV := Lib.hid hbV; clear hV hkV hbV; have v0 : V.cell? ⟨wr.heap.size, 0, none⟩ = some (.int .i64 xk) := HKV.out.cell 0; have v1 : V.cell? ⟨wr.heap.size, 1, none⟩ = some (.int .i64 xm) := HKV.out.cell 1; have v2 : V.cell? ⟨wr.heap.size, 2, none⟩ = some (.string (bs xs)) := HKV.out.cell 2; have v3 : V.cell? ⟨wr.heap.size, 3, none⟩ = some (.slice xA xn xc') := HKV.out.cell 3; have v4 : V.cell? ⟨wr.heap.size, 4, none⟩ = some (.slice xA1 xn1 xc1) := HKV.out.cell 4; have v5 : V.cell? ⟨wr.heap.size, 5, none⟩ = some (.slice xA2 xn2 xc2) := HKV.out.cell 5)
      clear v0 v1 v2 v3 v4 v5
      have HK : Hid (Blk V gs 47 #[.int .i64 xk, .int .i64 xm, .string (bs xs), .slice xA xn xc', .slice xA1 xn1 xc1, .slice xA2 xn2 xc2]) := Lib.hid (by rw [hgs]; exact HKV.out)
      rw [← hgs]
      clear hgs HKV a0 a1 a2 a3 a4 a5
      refine (HSH.out V HBV.out).mono ?_
      rintro f U ⟨rfl, hbu⟩
      have HBV2 : Hid (Below V.heap.size V U) := Lib.hid hbu
      have HBU0 := Lib.hid (HBV.out.trans (HBV2.out.mono HBV.out.size))
      have HBU := Lib.hid (HBR.out.trans (HBU0.out.mono HBR.out.size))
      clear hbu
      go_upto_region 5 with fail
      have k0 : U.cell? ⟨gs, 0, none⟩ = some (.int .i64 xk) := held_cells HK.out HBV2.out 0
      have k1 : U.cell? ⟨gs, 1, none⟩ = some (.int .i64 xm) := held_cells HK.out HBV2.out 1
      have k2 : U.cell? ⟨gs, 2, none⟩ = some (.string (bs xs)) := held_cells HK.out HBV2.out 2
      have k3 : U.cell? ⟨gs, 3, none⟩ = some (.slice xA xn xc') := held_cells HK.out HBV2.out 3
      have k4 : U.cell? ⟨gs, 4, none⟩ = some (.slice xA1 xn1 xc1) := held_cells HK.out HBV2.out 4
      have k5 : U.cell? ⟨gs, 5, none⟩ = some (.slice xA2 xn2 xc2) := held_cells HK.out HBV2.out 5
      go_cut [53] from 20 to 52 (fun v wx => v = .bool bad ∧ Below U.heap.size U wx)
      case first =>
        cases p1 with
        | false =>
          have e1 : bad = true := by rw [HG.out]; simp [Bool.false_and]
          have HE1 := Lib.hid e1
          clear e1
          go_wp2_with fail
          go_meet
          case rel => exact ⟨by rw [HE1.out] <;> rfl, Below.refl _ _⟩
        | true =>
          have HS1 : Hid (xk = 19 → xes.length = 1) := Lib.hid (fun h => shape_call (s := (.mk xk xm xs xA xn xc' xes xA1 xn1 xc1 xbo xA2 xn2 xc2 xel)) (by rw [← HP1.out]) h)
          by_cases h2 : xm = 0
          · have t2 : (xm != 0) = false := by simpa using h2
            by_cases h23 : xk = 23
            · have t23 : (xk == 23) = true := by rw [beq_iff_eq]; exact h23
              have e1 : bad = true := by rw [HG.out]; simp [h23]
              have HE1 := Lib.hid e1
              clear e1 h23
              go_wp2_with fail
              go_meet
              case rel => exact ⟨by rw [HE1.out] <;> rfl, Below.refl _ _⟩
            · have t23 : (xk == 23) = false := by rw [beq_eq_false_iff_ne]; exact h23
              cases p2 with
              | false =>
                by_cases h19 : xk = 19
                · have t19 : (xk == 19) = true := by rw [beq_iff_eq]; exact h19
                  have hx1 := HS1.out h19
                  have hx0 : 0 < xn := by have := HXL.out; omega
                  obtain ⟨zad, hzA, zab, zc⟩ := row_at (HXR.out.below HBU.out) hx0
                  obtain ⟨z, hze⟩ : ∃ z, z = xes[0]?.getD nilE := ⟨_, rfl⟩
                  have z0 := (zc z hze).1
                  obtain ⟨zk, hzk⟩ : ∃ zk, zk = z.kind := ⟨_, rfl⟩
                  rw [← hzk, Nat.zero_mul, addr_zero] at z0
                  have hz1 : (xes[0]?.getD nilE).kind = zk := by rw [← hze, hzk]
                  have i0 : (0 : Int) < (xn : Int) := by omega
                  subst hzA
                  by_cases h9 : zk = 9
                  · have t9 : (zk != 9) = false := by simpa using h9
                    rw [← hz1] at h9
                    clear zc hze hzk hz1 hx0 hx1
                    have e1 : bad = false := by rw [HG.out]; simp [h2, h23, h19, h9]
                    have HE1 := Lib.hid e1
                    clear e1 h2 h23 h19 h9
                    go_wp2_with fail
                    go_meet
                    case rel => exact ⟨by rw [HE1.out] <;> rfl, Below.refl _ _⟩
                  · have t9 : (zk != 9) = true := by rw [bne_iff_ne]; exact h9
                    rw [← hz1] at h9
                    clear zc hze hzk hz1 hx0 hx1
                    have e1 : bad = true := by rw [HG.out]; simp [h2, h23, h19, h9]
                    have HE1 := Lib.hid e1
                    clear e1 h2 h23 h19 h9
                    go_wp2_with fail
                    go_meet
                    case rel => exact ⟨by rw [HE1.out] <;> rfl, Below.refl _ _⟩
                · have t19 : (xk == 19) = false := by rw [beq_eq_false_iff_ne]; exact h19
                  have e1 : bad = false := by rw [HG.out]; simp [h2, h23, h19]
                  have HE1 := Lib.hid e1
                  clear e1 h2 h23 h19
                  go_wp2_with fail
                  go_meet
                  case rel => exact ⟨by rw [HE1.out] <;> rfl, Below.refl _ _⟩

              | true =>
                go_wp2_with fail
                refine (HNM.out U).mono ?_
                rintro f w3 ⟨rfl, rfl⟩
                cases q with
                | false =>
                  have e1 : bad = true := by rw [HG.out]; simp [Bool.not_true, Bool.and_false, Bool.false_and]
                  have HE1 := Lib.hid e1
                  clear e1 h2 h23
                  go_wp2_with fail
                  go_meet
                  case rel => exact ⟨by rw [HE1.out] <;> rfl, Below.refl _ _⟩
                | true =>
                  by_cases h19 : xk = 19
                  · have t19 : (xk == 19) = true := by rw [beq_iff_eq]; exact h19
                    have hx1 := HS1.out h19
                    have hx0 : 0 < xn := by have := HXL.out; omega
                    obtain ⟨zad, hzA, zab, zc⟩ := row_at (HXR.out.below HBU.out) hx0
                    obtain ⟨z, hze⟩ : ∃ z, z = xes[0]?.getD nilE := ⟨_, rfl⟩
                    have z0 := (zc z hze).1
                    obtain ⟨zk, hzk⟩ : ∃ zk, zk = z.kind := ⟨_, rfl⟩
                    rw [← hzk, Nat.zero_mul, addr_zero] at z0
                    have hz1 : (xes[0]?.getD nilE).kind = zk := by rw [← hze, hzk]
                    have i0 : (0 : Int) < (xn : Int) := by omega
                    subst hzA
                    by_cases h9 : zk = 9
                    · have t9 : (zk != 9) = false := by simpa using h9
                      rw [← hz1] at h9
                      clear zc hze hzk hz1 hx0 hx1
                      have e1 : bad = false := by rw [HG.out]; simp [h2, h23, h19, h9]
                      have HE1 := Lib.hid e1
                      clear e1 h2 h23 h19 h9
                      go_wp2_with fail
                      go_meet
                      case rel => exact ⟨by rw [HE1.out] <;> rfl, Below.refl _ _⟩
                    · have t9 : (zk != 9) = true := by rw [bne_iff_ne]; exact h9
                      rw [← hz1] at h9
                      clear zc hze hzk hz1 hx0 hx1
                      have e1 : bad = true := by rw [HG.out]; simp [h2, h23, h19, h9]
                      have HE1 := Lib.hid e1
                      clear e1 h2 h23 h19 h9
                      go_wp2_with fail
                      go_meet
                      case rel => exact ⟨by rw [HE1.out] <;> rfl, Below.refl _ _⟩
                  · have t19 : (xk == 19) = false := by rw [beq_eq_false_iff_ne]; exact h19
                    have e1 : bad = false := by rw [HG.out]; simp [h2, h23, h19]
                    have HE1 := Lib.hid e1
                    clear e1 h2 h23 h19
                    go_wp2_with fail
                    go_meet
                    case rel => exact ⟨by rw [HE1.out] <;> rfl, Below.refl _ _⟩

          · have t2 : (xm != 0) = true := by rw [bne_iff_ne]; exact h2
            have e1 : bad = true := by rw [HG.out]; simp [h2]
            have HE1 := Lib.hid e1
            clear e1 h2
            go_wp2_with fail
            go_meet
            case rel => exact ⟨by rw [HE1.out] <;> rfl, Below.refl _ _⟩

      case rest =>
        obtain ⟨rfl, hbc⟩ := hcut
        have HBC := Lib.hid hbc
        have HVC := Lib.hid (HBV2.out.trans (HBC.out.mono HBV2.out.size))
        have HWC := Lib.hid (HBV.out.trans (HVC.out.mono HBV.out.size))
        have HCW := Lib.hid (HBR.out.trans (HWC.out.mono HBR.out.size))
        clear k0 k1 k2 k3 k4 k5 hbc
        cases bad with
        | true =>
          have HE : Hid (rightBl nmB ss = false) := Lib.hid (HNO.out (by rw [HRS.out]; rfl))
          go_wp2_with fail
          go_ret
          rw [HE.out]
          exact ⟨rfl, HCW.out⟩
        | false =>
          obtain ⟨said, hsaid⟩ : ∃ b, b = decide (xk = 1) := ⟨_, rfl⟩
          have tsaid : (xk == 1) = said := by rw [hsaid]; rfl
          rw [← hsaid] at HRS
          clear hsaid
          have k3 : wc.cell? ⟨gs, 3, none⟩ = some (.slice xA xn xc') := held_cells HK.out HVC.out 3
          go_wp2_with fail
          go_loopw [57] (fun vi wr => ∃ i : Nat, i ≤ xn ∧ vi = .int .i64 i ∧ Hid (∀ i', i' < i → rightE nmB said (xes[i']?.getD nilE) = true) ∧ Hid (Below wc.heap.size wc wr)) (fun vi _ => xn - (intOf vi).toNat)
          case atStart => exact ⟨0, Nat.zero_le _, rfl, Lib.hid (fun i hi => absurd hi (Nat.not_lt_zero _)), Lib.hid (Below.refl _ _)⟩
          case round =>
            obtain ⟨i, hi, rfl, HSI, HBI⟩ := hrel
            have HBI0 := Lib.hid (HCW.out.trans (HBI.out.mono HCW.out.size))
            have HVI := Lib.hid (HVC.out.trans (HBI.out.mono HVC.out.size))
            by_cases hlt : i < xn
            · have hil : i < xes.length := by rw [HXL.out]; exact hlt
              have HIL := Lib.hid hil
              clear hil
              have hyjl : i < xes.length := by rw [HXL.out]; exact hlt
              obtain ⟨yad, rfl, yab, yc⟩ := row_at (HXR.out.below HBI0.out) hlt
              have hy := HXI.out.at hyjl
              have hymem : (xes[i]?.getD nilE) ∈ xes := by rw [List.getElem?_eq_getElem hyjl]; exact List.getElem_mem _
              obtain ⟨y, hye⟩ : ∃ x, x = xes[i]?.getD nilE := ⟨_, rfl⟩
              obtain ⟨b0, b1, b2, b3, b4⟩ := yc y hye
              rw [← hye] at hy hymem
              have HXy := Lib.hid hy
              have HEy := Lib.hid hye
              have HMy := Lib.hid hymem
              obtain ⟨yk, yo, ym, ys, yA, yn, yc', yes⟩ := y
              change wr.cell? (yad.add (i * 5)) = some (.int .i64 yk) at b0
              change wr.cell? ⟨(yad.add (i * 5)).block, (yad.add (i * 5)).off + 1, none⟩ = some (.int .i64 yo) at b1
              change wr.cell? ⟨(yad.add (i * 5)).block, (yad.add (i * 5)).off + 2, none⟩ = some (.int .i64 ym) at b2
              change wr.cell? ⟨(yad.add (i * 5)).block, (yad.add (i * 5)).off + 3, none⟩ = some (.string (bs ys)) at b3
              change wr.cell? ⟨(yad.add (i * 5)).block, (yad.add (i * 5)).off + 4, none⟩ = some (.slice yA yn yc') at b4
              clear yc hye hy hymem hyjl
              have hc := r10right_any (.mk yk yo ym ys yA yn yc' yes) said
              obtain ⟨r, hr⟩ : ∃ r, r = rightE nmB said (.mk yk yo ym ys yA yn yc' yes) := ⟨_, rfl⟩
              rw [← hr] at hc
              have HC := Lib.hid hc
              have HR2 := Lib.hid hr
              clear hc hr
              go_wp2_with (refine wpList_store_row rfl 24 _ _ rfl wr.heap.size #[.int .i64 yk, .int .i64 yo, .int .i64 ym, .string (bs ys), .slice yA yn yc'] rfl rfl _ _ (Blk.new wr _ _) expr_size rfl (expr_one _ _ _ _ _ _ _) ?_; obtain ⟨V9, hV9⟩ : ∃ V, V = (wr.alloc (.cells #[.int .i64 0, .int .i64 0, .int .i64 0, .string ⟨#[]⟩, .slice none 0 0] 24)).setRow wr.heap.size #[.int .i64 yk, .int .i64 yo, .int .i64 ym, .string (bs ys), .slice yA yn yc'] := ⟨_, rfl⟩; rw [← hV9]; obtain ⟨hkV9, hbV9⟩ := put_row hV9; have HKV9 := Lib.hid hkV9; have HBV9 := Lib.hid hbV9; clear hV9 hkV9 hbV9; have g0 : V9.cell? ⟨gs, 0, none⟩ = some (.int .i64 xk) := held_cells HK.out (HVI.out.trans (HBV9.out.mono HVI.out.size)) 0; have vv0 : V9.cell? ⟨wr.heap.size, 0, none⟩ = some (.int .i64 yk) := HKV9.out.cell 0; have vv1 : V9.cell? ⟨wr.heap.size, 1, none⟩ = some (.int .i64 yo) := HKV9.out.cell 1; have vv2 : V9.cell? ⟨wr.heap.size, 2, none⟩ = some (.int .i64 ym) := HKV9.out.cell 2; have vv3 : V9.cell? ⟨wr.heap.size, 3, none⟩ = some (.string (bs ys)) := HKV9.out.cell 3; have vv4 : V9.cell? ⟨wr.heap.size, 4, none⟩ = some (.slice yA yn yc') := HKV9.out.cell 4)
              clear g0 vv0 vv1 vv2 vv3 vv4
              have HBV9' := Lib.hid (HBI0.out.trans (HBV9.out.mono HBI0.out.size))
              refine (HC.out V9 (EL.In.more HBV9'.out.size (HXy.out.below HBV9'.out))).mono ?_
              rintro f w2 ⟨rfl, hb2⟩
              have HB2 := Lib.hid (HBI.out.trans ((HBV9.out.trans (hb2.mono HBV9.out.size)).mono HBI.out.size))
              clear hb2
              cases r with
              | false =>
                have HE : Hid (rightBl nmB ss = false) := Lib.hid (HNO.out (by
                  rw [HRS.out, all_no (d := nilE) (j := i) HIL.out (by rw [← HEy.out]; exact HR2.out.symm)]
                  rfl))
                have HBF := Lib.hid (HCW.out.trans (HB2.out.mono HCW.out.size))
                go_wp2_with fail
                go_ret
                rw [HE.out]
                exact ⟨rfl, HBF.out⟩
              | true =>
                have HN : Hid (∀ i', i' < i + 1 → rightE nmB said (xes[i']?.getD nilE) = true) := Lib.hid (fun i' hi' => by
                  by_cases e : i' = i
                  · subst e; rw [← HEy.out]; exact HR2.out.symm
                  · exact HSI.out i' (by omega))
                go_wp2_with fail
                go_roundw
                case rel => exact ⟨i + 1, by omega, by go_num, HN, HB2⟩
                case measure => simp [intOf]; omega
            · obtain rfl : i = xn := by omega
              have HALL : Hid (rightS nmB (.mk xk xm xs xA i xc' xes xA1 xn1 xc1 xbo xA2 xn2 xc2 xel) = (b1 && b2)) := Lib.hid (by
                rw [HRS.out, all_yes (d := nilE) (by rw [HXL.out]; exact HSI.out)]
                rfl)
              have k4 : wr.cell? ⟨gs, 4, none⟩ = some (.slice xA1 xn1 xc1) := held_cells HK.out HVI.out 4
              go_wp2_with fail
              refine (HCB.out wr (HWC.out.trans (HBI.out.mono HWC.out.size))).mono ?_
              rintro f w4 ⟨rfl, hb4⟩
              have HB4 := Lib.hid (HBI.out.trans (hb4.mono HBI.out.size))
              have HV4 := Lib.hid (HVC.out.trans (HB4.out.mono HVC.out.size))
              have HW4 := Lib.hid (HCW.out.trans (HB4.out.mono HCW.out.size))
              clear hb4
              cases b1 with
              | false =>
                have HE : Hid (rightBl nmB ss = false) := Lib.hid (HNO.out (by rw [HALL.out]; rfl))
                go_wp2_with fail
                go_ret
                rw [HE.out]
                exact ⟨rfl, HW4.out⟩
              | true =>
                have l5 : w4.cell? ⟨gs, 5, none⟩ = some (.slice xA2 xn2 xc2) := held_cells HK.out HV4.out 5
                go_wp2_with fail
                refine (HCE.out w4 (HWC.out.trans (HB4.out.mono HWC.out.size))).mono ?_
                rintro f w5 ⟨rfl, hb5⟩
                have HW5 := Lib.hid (HW4.out.trans (hb5.mono HW4.out.size))
                clear hb5
                cases b2 with
                | false =>
                  have HE : Hid (rightBl nmB ss = false) := Lib.hid (HNO.out (by rw [HALL.out]; rfl))
                  go_wp2_with fail
                  go_ret
                  rw [HE.out]
                  exact ⟨rfl, HW5.out⟩
                | true =>
                  have HN : Hid (∀ i', i' < j + 1 → rightS nmB (ss[i']?.getD nilS) = true) := Lib.hid (fun i' hi' => by
                    by_cases e : i' = j
                    · subst e; rw [← HEx.out, HALL.out]; rfl
                    · exact HSO.out i' (by omega))
                  go_wp2_with fail
                  go_roundw
                  case rel => exact ⟨j + 1, by omega, by go_num, HN, HW5⟩
                  case measure => simp [intOf]; omega
    · obtain rfl : j = n := by omega
      have HE : Hid (rightSs nmB ss = true) := Lib.hid (by rw [rightSs_all]; exact all_yes (d := nilS) (by rw [HL.out]; exact HSO.out))
      have HF : Hid (rightBl nmB ss = decide ((j : Int) ≤ 256)) := Lib.hid (by unfold rightBl; rw [HE.out, Bool.true_and, HL.out]; exact decide_eq_decide.2 (by omega))
      go_wp2_with fail
      go_ret
      rw [HF.out]
      exact ⟨rfl, HBR.out⟩

theorem rightL_all : ∀ x : SL, RightL x.body ∧ RightL x.els := SL.ind fun s h1 h2 => ⟨r10rightBlock_of s.body h1, r10rightBlock_of s.els h2⟩
theorem r10rightBlock_any (ss : List SL) : RightL ss := r10rightBlock_of ss fun x _ => rightL_all x

set_option maxRecDepth 100000 in
set_option maxHeartbeats 1600000 in
theorem r10RightBlock_any (ss : List SL) (A : Option Addr) (n c : Nat) (w : World) (hrow : RowS6 w w.heap.size A n ss) (hins : SL.Ins w w.heap.size ss) :
    Calls Try.prog 15 #[.slice A n c] w fun f w' => f = .returned (.bool (rightBs nmB ss)) ∧ Below w.heap.size w w' := by
  have hc := r10DepthBlock_any ss A n c w hrow hins
  have hr : ∀ W : World, Below w.heap.size w W → Calls Try.prog 36 #[.slice A n c] W fun f w' => f = .returned (.bool (rightBl nmB ss)) ∧ Below W.heap.size W w' := fun W hb => r10rightBlock_any ss A n c W ((hrow.below hb).more hb.size) ((hins.below hb).more hb.size)
  unfold rightBs
  obtain ⟨d, hd⟩ : ∃ d, d = min 65 (depSs ss) := ⟨_, rfl⟩
  have he : decide (depSs ss ≤ 32) = decide (d ≤ 32) := decide_eq_decide.2 (by omega)
  rw [he]
  obtain ⟨q, hq⟩ : ∃ q, q = rightBl nmB ss := ⟨_, rfl⟩
  rw [← hq]
  rw [← hd] at hc
  rw [← hq] at hr
  clear he hd hq hrow hins
  have HC := Lib.hid hc
  have HR := Lib.hid hr
  clear hc hr
  by_cases h32 : d ≤ 32
  · have t1 : (d : Int) ≤ 32 := by omega
    have e1 : (decide (d ≤ 32) && q) = q := by rw [decide_eq_true h32, Bool.true_and]
    rw [e1]
    clear h32 e1
    go_enter Try.func15, Try.ntmps15
    go_wp2_with fail
    refine HC.out.mono ?_
    rintro f w2 ⟨rfl, hb2⟩
    have HB2 := Lib.hid hb2
    clear hb2
    go_wp2_with fail
    refine (HR.out w2 HB2.out).mono ?_
    rintro f w3 ⟨rfl, hb3⟩
    go_wp2_with fail
    go_ret
    exact ⟨rfl, HB2.out.trans (hb3.mono HB2.out.size)⟩
  · have t1 : ¬ (d : Int) ≤ 32 := by omega
    have e1 : (decide (d ≤ 32) && q) = false := by rw [decide_eq_false h32, Bool.false_and]
    rw [e1]
    clear h32 e1
    go_enter Try.func15, Try.ntmps15
    go_wp2_with fail
    refine HC.out.mono ?_
    rintro f w2 ⟨rfl, hb2⟩
    go_wp2_with fail
    go_ret
    exact ⟨rfl, hb2⟩

end Go.Proofs.Ytdmpadonnobeaaa
