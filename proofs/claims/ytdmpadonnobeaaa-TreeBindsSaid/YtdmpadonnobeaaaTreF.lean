/- Contract of the reference's SameBlock. -/
import Derived.Test.YtdmpadonnobeaaaTreC
import Derived.Test.YtdmpadonnobeaaaTreD
import Derived.Deep.RegionHeldLaw
namespace Go.Proofs.Ytdmpadonnobeaaa
open Go.RowKit

/-- what SameBlock does, at a list of statements -/
def SameL (ss : List SL) : Prop := ∀ (ts : List SL) (A B : Option Addr) (n c m d : Nat) (w : World), RowS6 w w.heap.size A n ss → SL.Ins w w.heap.size ss → RowS6 w w.heap.size B m ts → SL.Ins w w.heap.size ts →
    Calls Try.prog 23 #[.slice A n c, .slice B m d] w fun f w' => f = .returned (.bool (sameSs ss ts)) ∧ Below w.heap.size w w'

theorem r10sameArgs_any (es fs : List EL) (A B : Option Addr) (n c m d : Nat) (w : World) (hA : RowE w w.heap.size A n es) (hAi : EL.Ins w w.heap.size es) (hB : RowE w w.heap.size B m fs) (hBi : EL.Ins w w.heap.size fs) :
    Calls Try.prog 44 #[.slice A n c, .slice B m d] w fun f w' => f = .returned (.bool (sameEs es fs)) ∧ Below w.heap.size w w' :=
  r10sameArgs_of es fs (fun x _ => r10Same_any x) A B n c m d w hA hAi hB hBi

theorem sameSs_no {a b : List SL} {j : Nat} (hl : a.length = b.length) (hj : j < a.length) (h : sameS (a[j]?.getD nilS) (b[j]?.getD nilS) = false) : sameSs a b = false := by
  cases hs : sameSs a b with
  | false => rfl
  | true =>
    have := (sameSs_at hl).1 hs j hj
    rw [h] at this
    cases this

set_option maxRecDepth 100000 in
set_option maxHeartbeats 6400000 in
theorem r10SameBlock_of (ss : List SL) (hS : ∀ x ∈ ss, SameL x.body ∧ SameL x.els) : SameL ss := by
  intro ts A B n c m d w hA hAi hB hBi
  have hn := hA.1
  have hm := hB.1
  have hn9 := hA.2.1
  have hm9 := hB.2.1
  by_cases hnm : n = m
  · subst hnm
    have HL := Lib.hid hn
    have HLf := Lib.hid hm
    have HR := Lib.hid hA
    have HA := Lib.hid hAi
    have HRf := Lib.hid hB
    have HAf := Lib.hid hBi
    have HS := Lib.hid hS
    have t0 : ((n : Int) == (n : Int)) = true := by simp
    clear hn hm hA hAi hB hBi hS
    go_enter Try.func23, Try.ntmps23
    go_wp2_with fail
    go_loopw [5] (fun vj wr => ∃ j : Nat, j ≤ n ∧ vj = .int .i64 j ∧ Hid (∀ i, i < j → sameS (ss[i]?.getD nilS) (ts[i]?.getD nilS) = true) ∧ Hid (Below w.heap.size w wr)) (fun vj _ => n - (intOf vj).toNat)
    case atStart => exact ⟨0, Nat.zero_le _, rfl, Lib.hid (fun i hi => absurd hi (Nat.not_lt_zero _)), Lib.hid (Below.refl _ _)⟩
    case round =>
      obtain ⟨j, hj, rfl, HSO, HBR⟩ := hrel
      by_cases hlt : j < n
      · skip
        have hxjl : j < ss.length := by rw [HL.out]; exact hlt
        obtain ⟨xad, rfl, xab, xc⟩ := rowS_at (HR.out.below HBR.out) hlt
        have hx := HA.out.at hxjl
        have hxmem : (ss[j]?.getD nilS) ∈ ss := by rw [List.getElem?_eq_getElem hxjl]; exact List.getElem_mem _
        obtain ⟨x, hxe⟩ : ∃ x, x = ss[j]?.getD nilS := ⟨_, rfl⟩
        obtain ⟨a0, a1, a2, a3, a4, a5⟩ := xc x hxe
        rw [← hxe] at hx hxmem
        have HXx := Lib.hid hx
        have HEx := Lib.hid hxe
        have HMx := Lib.hid hxmem
        obtain ⟨hxp, hxq1, hxq2⟩ := hx.parts
        obtain ⟨hxs1, hxs2⟩ := HS.out _ hxmem
        obtain ⟨xk, xm, xs, xA, xn, xc', xes, xA1, xn1, xc1, xbo, xA2, xn2, xc2, xel⟩ := x
        change wr.cell? (xad.add (j * 6)) = some (.int .i64 xk) at a0
        change wr.cell? ⟨(xad.add (j * 6)).block, (xad.add (j * 6)).off + 1, none⟩ = some (.int .i64 xm) at a1
        change wr.cell? ⟨(xad.add (j * 6)).block, (xad.add (j * 6)).off + 2, none⟩ = some (.string (bs xs)) at a2
        change wr.cell? ⟨(xad.add (j * 6)).block, (xad.add (j * 6)).off + 3, none⟩ = some (.slice xA xn xc') at a3
        change wr.cell? ⟨(xad.add (j * 6)).block, (xad.add (j * 6)).off + 4, none⟩ = some (.slice xA1 xn1 xc1) at a4
        change wr.cell? ⟨(xad.add (j * 6)).block, (xad.add (j * 6)).off + 5, none⟩ = some (.slice xA2 xn2 xc2) at a5
        clear xc hxe hx hxmem hxjl
        have hyjl : j < ts.length := by rw [HLf.out]; exact hlt
        obtain ⟨yad, rfl, yab, yc⟩ := rowS_at (HRf.out.below HBR.out) hlt
        have hy := HAf.out.at hyjl
        have hymem : (ts[j]?.getD nilS) ∈ ts := by rw [List.getElem?_eq_getElem hyjl]; exact List.getElem_mem _
        obtain ⟨y, hye⟩ : ∃ x, x = ts[j]?.getD nilS := ⟨_, rfl⟩
        obtain ⟨b0, b1, b2, b3, b4, b5⟩ := yc y hye
        rw [← hye] at hy hymem
        have HXy := Lib.hid hy
        have HEy := Lib.hid hye
        have HMy := Lib.hid hymem
        obtain ⟨hyp, hyq1, hyq2⟩ := hy.parts
        obtain ⟨yk, ym, ys, yA, yn, yc', yes, yA1, yn1, yc1, ybo, yA2, yn2, yc2, yel⟩ := y
        change wr.cell? (yad.add (j * 6)) = some (.int .i64 yk) at b0
        change wr.cell? ⟨(yad.add (j * 6)).block, (yad.add (j * 6)).off + 1, none⟩ = some (.int .i64 ym) at b1
        change wr.cell? ⟨(yad.add (j * 6)).block, (yad.add (j * 6)).off + 2, none⟩ = some (.string (bs ys)) at b2
        change wr.cell? ⟨(yad.add (j * 6)).block, (yad.add (j * 6)).off + 3, none⟩ = some (.slice yA yn yc') at b3
        change wr.cell? ⟨(yad.add (j * 6)).block, (yad.add (j * 6)).off + 4, none⟩ = some (.slice yA1 yn1 yc1) at b4
        change wr.cell? ⟨(yad.add (j * 6)).block, (yad.add (j * 6)).off + 5, none⟩ = some (.slice yA2 yn2 yc2) at b5
        clear yc hye hy hymem hyjl
        have i1 : 0 ≤ (j : Int) ∧ (j : Int) < (n : Int) := by omega
        have hxb : (xad.add (j * 6)).block < wr.heap.size := Nat.lt_of_lt_of_le (by rw [blk_add]; exact xab) HBR.out.size
        have hyb : (yad.add (j * 6)).block < wr.heap.size := Nat.lt_of_lt_of_le (by rw [blk_add]; exact yab) HBR.out.size
        have ALL : Hid (∀ u : World, Below wr.heap.size wr u → (Below wr.heap.size wr u ∧ u.cell? (xad.add (j * 6)) = some (.int .i64 xk) ∧ u.cell? ⟨(xad.add (j * 6)).block, (xad.add (j * 6)).off + 1, none⟩ = some (.int .i64 xm) ∧ u.cell? ⟨(xad.add (j * 6)).block, (xad.add (j * 6)).off + 2, none⟩ = some (.string (bs xs)) ∧ u.cell? ⟨(xad.add (j * 6)).block, (xad.add (j * 6)).off + 3, none⟩ = some (.slice xA xn xc') ∧ u.cell? ⟨(xad.add (j * 6)).block, (xad.add (j * 6)).off + 4, none⟩ = some (.slice xA1 xn1 xc1) ∧ u.cell? ⟨(xad.add (j * 6)).block, (xad.add (j * 6)).off + 5, none⟩ = some (.slice xA2 xn2 xc2) ∧ u.cell? (yad.add (j * 6)) = some (.int .i64 yk) ∧ u.cell? ⟨(yad.add (j * 6)).block, (yad.add (j * 6)).off + 1, none⟩ = some (.int .i64 ym) ∧ u.cell? ⟨(yad.add (j * 6)).block, (yad.add (j * 6)).off + 2, none⟩ = some (.string (bs ys)) ∧ u.cell? ⟨(yad.add (j * 6)).block, (yad.add (j * 6)).off + 3, none⟩ = some (.slice yA yn yc') ∧ u.cell? ⟨(yad.add (j * 6)).block, (yad.add (j * 6)).off + 4, none⟩ = some (.slice yA1 yn1 yc1) ∧ u.cell? ⟨(yad.add (j * 6)).block, (yad.add (j * 6)).off + 5, none⟩ = some (.slice yA2 yn2 yc2))) := Lib.hid (fun u hb => ⟨hb, (hb.cell hxb).trans a0, (hb.cell (p := ⟨(xad.add (j * 6)).block, (xad.add (j * 6)).off + 1, none⟩) hxb).trans a1, (hb.cell (p := ⟨(xad.add (j * 6)).block, (xad.add (j * 6)).off + 2, none⟩) hxb).trans a2, (hb.cell (p := ⟨(xad.add (j * 6)).block, (xad.add (j * 6)).off + 3, none⟩) hxb).trans a3, (hb.cell (p := ⟨(xad.add (j * 6)).block, (xad.add (j * 6)).off + 4, none⟩) hxb).trans a4, (hb.cell (p := ⟨(xad.add (j * 6)).block, (xad.add (j * 6)).off + 5, none⟩) hxb).trans a5, (hb.cell hyb).trans b0, (hb.cell (p := ⟨(yad.add (j * 6)).block, (yad.add (j * 6)).off + 1, none⟩) hyb).trans b1, (hb.cell (p := ⟨(yad.add (j * 6)).block, (yad.add (j * 6)).off + 2, none⟩) hyb).trans b2, (hb.cell (p := ⟨(yad.add (j * 6)).block, (yad.add (j * 6)).off + 3, none⟩) hyb).trans b3, (hb.cell (p := ⟨(yad.add (j * 6)).block, (yad.add (j * 6)).off + 4, none⟩) hyb).trans b4, (hb.cell (p := ⟨(yad.add (j * 6)).block, (yad.add (j * 6)).off + 5, none⟩) hyb).trans b5⟩)
        obtain ⟨q1, hq1⟩ : ∃ q, q = sameEs xes yes := ⟨_, rfl⟩
        obtain ⟨q2, hq2⟩ : ∃ q, q = sameSs xbo ybo := ⟨_, rfl⟩
        obtain ⟨q3, hq3⟩ : ∃ q, q = sameSs xel yel := ⟨_, rfl⟩
        have hca : ∀ W : World, Below wr.heap.size wr W → Calls Try.prog 44 #[.slice xA xn xc', .slice yA yn yc'] W fun f w' => f = .returned (.bool q1) ∧ Below W.heap.size W w' := fun W hb => by
          have h1 := HBR.out.trans (hb.mono HBR.out.size)
          rw [hq1]
          exact r10sameArgs_any xes yes xA yA xn xc' yn yc' W ((RowE.below hxp.2.2.1.1 h1).more h1.size) ((EL.Ins.below hxp.2.2.1.2 h1).more h1.size) ((RowE.below hyp.2.2.1.1 h1).more h1.size) ((EL.Ins.below hyp.2.2.1.2 h1).more h1.size)
        have hcb : ∀ W : World, Below wr.heap.size wr W → Calls Try.prog 23 #[.slice xA1 xn1 xc1, .slice yA1 yn1 yc1] W fun f w' => f = .returned (.bool q2) ∧ Below W.heap.size W w' := fun W hb => by
          have h1 := HBR.out.trans (hb.mono HBR.out.size)
          rw [hq2]
          exact hxs1 ybo xA1 yA1 xn1 xc1 yn1 yc1 W ((RowS6.below hxp.2.2.2.1 h1).more h1.size) ((SL.Ins.below hxq1 h1).more h1.size) ((RowS6.below hyp.2.2.2.1 h1).more h1.size) ((SL.Ins.below hyq1 h1).more h1.size)
        have hce : ∀ W : World, Below wr.heap.size wr W → Calls Try.prog 23 #[.slice xA2 xn2 xc2, .slice yA2 yn2 yc2] W fun f w' => f = .returned (.bool q3) ∧ Below W.heap.size W w' := fun W hb => by
          have h1 := HBR.out.trans (hb.mono HBR.out.size)
          rw [hq3]
          exact hxs2 yel xA2 yA2 xn2 xc2 yn2 yc2 W ((RowS6.below hxp.2.2.2.2 h1).more h1.size) ((SL.Ins.below hxq2 h1).more h1.size) ((RowS6.below hyp.2.2.2.2 h1).more h1.size) ((SL.Ins.below hyq2 h1).more h1.size)
        have HCA := Lib.hid hca
        have HCB := Lib.hid hcb
        have HCE := Lib.hid hce
        have HQ1 := Lib.hid hq1
        have HQ2 := Lib.hid hq2
        have HQ3 := Lib.hid hq3
        clear hca hcb hce hq1 hq2 hq3 hxp hxq1 hxq2 hyp hyq1 hyq2 hxs1 hxs2 a0 a1 a2 a3 a4 a5 b0 b1 b2 b3 b4 b5 hxb hyb
        go_wp2_with fail
        go_region_held_law (fun u => (Below wr.heap.size wr u ∧ u.cell? (xad.add (j * 6)) = some (.int .i64 xk) ∧ u.cell? ⟨(xad.add (j * 6)).block, (xad.add (j * 6)).off + 1, none⟩ = some (.int .i64 xm) ∧ u.cell? ⟨(xad.add (j * 6)).block, (xad.add (j * 6)).off + 2, none⟩ = some (.string (bs xs)) ∧ u.cell? ⟨(xad.add (j * 6)).block, (xad.add (j * 6)).off + 3, none⟩ = some (.slice xA xn xc') ∧ u.cell? ⟨(xad.add (j * 6)).block, (xad.add (j * 6)).off + 4, none⟩ = some (.slice xA1 xn1 xc1) ∧ u.cell? ⟨(xad.add (j * 6)).block, (xad.add (j * 6)).off + 5, none⟩ = some (.slice xA2 xn2 xc2) ∧ u.cell? (yad.add (j * 6)) = some (.int .i64 yk) ∧ u.cell? ⟨(yad.add (j * 6)).block, (yad.add (j * 6)).off + 1, none⟩ = some (.int .i64 ym) ∧ u.cell? ⟨(yad.add (j * 6)).block, (yad.add (j * 6)).off + 2, none⟩ = some (.string (bs ys)) ∧ u.cell? ⟨(yad.add (j * 6)).block, (yad.add (j * 6)).off + 3, none⟩ = some (.slice yA yn yc') ∧ u.cell? ⟨(yad.add (j * 6)).block, (yad.add (j * 6)).off + 4, none⟩ = some (.slice yA1 yn1 yc1) ∧ u.cell? ⟨(yad.add (j * 6)).block, (yad.add (j * 6)).off + 5, none⟩ = some (.slice yA2 yn2 yc2))) ((refine ALL.out _ ?_; repeat (first | exact Below.refl _ _ | refine Below.drew ?_ | refine Below.alloc ?_ (by simp) _ | refine below_setRow ?_ (by simp) _))) (fail)
        · clear ALL
          obtain ⟨V, hV⟩ : ∃ V, V = ((wr.alloc (.cells #[.int .i64 xk, .int .i64 xm, .string (bs xs), .slice xA xn xc', .slice xA1 xn1 xc1, .slice xA2 xn2 xc2] 47)).alloc (.cells #[.int .i64 yk, .int .i64 ym, .string (bs ys), .slice yA yn yc', .slice yA1 yn1 yc1, .slice yA2 yn2 yc2] 47)).drew := ⟨_, rfl⟩
          rw [← hV]
          obtain ⟨gx, hgx⟩ : ∃ g, g = wr.heap.size := ⟨_, rfl⟩
          obtain ⟨gy, hgy⟩ : ∃ g, g = wr.heap.size + 1 := ⟨_, rfl⟩
          rw [← hgy, ← hgx]
          have HKX : Hid (Blk V gx 47 #[.int .i64 xk, .int .i64 xm, .string (bs xs), .slice xA xn xc', .slice xA1 xn1 xc1, .slice xA2 xn2 xc2]) := Lib.hid (by rw [hV, hgx]; exact (Blk.new wr _ _).alloc _)
          have HKY : Hid (Blk V gy 47 #[.int .i64 yk, .int .i64 ym, .string (bs ys), .slice yA yn yc', .slice yA1 yn1 yc1, .slice yA2 yn2 yc2]) := Lib.hid (by rw [hV, hgy]; exact Blk.new_at (wr.alloc (.cells #[.int .i64 xk, .int .i64 xm, .string (bs xs), .slice xA xn xc', .slice xA1 xn1 xc1, .slice xA2 xn2 xc2] 47)) 47 #[.int .i64 yk, .int .i64 ym, .string (bs ys), .slice yA yn yc', .slice yA1 yn1 yc1, .slice yA2 yn2 yc2] _ (by simp))
          have HBV : Hid (Below wr.heap.size wr V) := Lib.hid (by rw [hV]; exact (((Below.refl _ _).alloc (Nat.le_refl _) _).alloc (by simp) _).drew)
          clear hV hgx hgy
          by_cases h1 : xk = yk
          · have t1 : (xk != yk) = false := by simpa using h1
            have t1' : (xk == yk) = true := by simpa using h1
            by_cases h2 : xm = ym
            · have t2 : (xm != ym) = false := by simpa using h2
              have t2' : (xm == ym) = true := by simpa using h2
              by_cases h3 : xs = ys
              · subst h1
                subst h2
                subst h3
                have t3 : ((bs xs).toList == (bs xs).toList) = true := by simp
                clear t1 t2
                cases q1 with
                | false =>
                  have HE : Hid (sameSs ss ts = false) := Lib.hid (sameSs_no (by rw [HL.out, HLf.out]) (by rw [HL.out]; exact hlt) (by
                    rw [← HEx.out, ← HEy.out, sameS_eq]
                    simp [SL.kind, SL.num, SL.name, SL.args, SL.body, SL.els, ← HQ1.out]))
                  have kx0 : V.cell? ⟨gx, 0, none⟩ = some (.int .i64 xk) := held_cells HKX.out (Below.refl _ _) 0
                  have kx1 : V.cell? ⟨gx, 1, none⟩ = some (.int .i64 xm) := held_cells HKX.out (Below.refl _ _) 1
                  have kx2 : V.cell? ⟨gx, 2, none⟩ = some (.string (bs xs)) := held_cells HKX.out (Below.refl _ _) 2
                  have kx3 : V.cell? ⟨gx, 3, none⟩ = some (.slice xA xn xc') := held_cells HKX.out (Below.refl _ _) 3
                  have ky0 : V.cell? ⟨gy, 0, none⟩ = some (.int .i64 xk) := held_cells HKY.out (Below.refl _ _) 0
                  have ky1 : V.cell? ⟨gy, 1, none⟩ = some (.int .i64 xm) := held_cells HKY.out (Below.refl _ _) 1
                  have ky2 : V.cell? ⟨gy, 2, none⟩ = some (.string (bs xs)) := held_cells HKY.out (Below.refl _ _) 2
                  have ky3 : V.cell? ⟨gy, 3, none⟩ = some (.slice yA yn yc') := held_cells HKY.out (Below.refl _ _) 3
                  go_wp2_with fail
                  refine (HCA.out V (HBV.out.trans ((Below.refl V.heap.size V).mono HBV.out.size))).mono ?_
                  rintro f W0 ⟨rfl, hb0⟩
                  have HB0 : Hid (Below V.heap.size V W0) := Lib.hid ((Below.refl V.heap.size V).trans (hb0.mono (Below.refl V.heap.size V).size))
                  clear hb0
                  have HBF : Hid (Below w.heap.size w W0) := Lib.hid (HBR.out.trans ((HBV.out.trans (HB0.out.mono HBV.out.size)).mono HBR.out.size))
                  go_wp2_with fail
                  go_ret
                  rw [HE.out]
                  exact ⟨rfl, HBF.out⟩
                | true =>
                  cases q2 with
                  | false =>
                    have HE : Hid (sameSs ss ts = false) := Lib.hid (sameSs_no (by rw [HL.out, HLf.out]) (by rw [HL.out]; exact hlt) (by
                      rw [← HEx.out, ← HEy.out, sameS_eq]
                      simp [SL.kind, SL.num, SL.name, SL.args, SL.body, SL.els, ← HQ2.out]))
                    have kx0 : V.cell? ⟨gx, 0, none⟩ = some (.int .i64 xk) := held_cells HKX.out (Below.refl _ _) 0
                    have kx1 : V.cell? ⟨gx, 1, none⟩ = some (.int .i64 xm) := held_cells HKX.out (Below.refl _ _) 1
                    have kx2 : V.cell? ⟨gx, 2, none⟩ = some (.string (bs xs)) := held_cells HKX.out (Below.refl _ _) 2
                    have kx3 : V.cell? ⟨gx, 3, none⟩ = some (.slice xA xn xc') := held_cells HKX.out (Below.refl _ _) 3
                    have ky0 : V.cell? ⟨gy, 0, none⟩ = some (.int .i64 xk) := held_cells HKY.out (Below.refl _ _) 0
                    have ky1 : V.cell? ⟨gy, 1, none⟩ = some (.int .i64 xm) := held_cells HKY.out (Below.refl _ _) 1
                    have ky2 : V.cell? ⟨gy, 2, none⟩ = some (.string (bs xs)) := held_cells HKY.out (Below.refl _ _) 2
                    have ky3 : V.cell? ⟨gy, 3, none⟩ = some (.slice yA yn yc') := held_cells HKY.out (Below.refl _ _) 3
                    go_wp2_with fail
                    refine (HCA.out V (HBV.out.trans ((Below.refl V.heap.size V).mono HBV.out.size))).mono ?_
                    rintro f W0 ⟨rfl, hb0⟩
                    have HB0 : Hid (Below V.heap.size V W0) := Lib.hid ((Below.refl V.heap.size V).trans (hb0.mono (Below.refl V.heap.size V).size))
                    clear hb0
                    have k0x4 : W0.cell? ⟨gx, 4, none⟩ = some (.slice xA1 xn1 xc1) := held_cells HKX.out HB0.out 4
                    have k0y4 : W0.cell? ⟨gy, 4, none⟩ = some (.slice yA1 yn1 yc1) := held_cells HKY.out HB0.out 4
                    go_wp2_with fail
                    refine (HCB.out W0 (HBV.out.trans (HB0.out.mono HBV.out.size))).mono ?_
                    rintro f W1 ⟨rfl, hb1⟩
                    have HB1 : Hid (Below V.heap.size V W1) := Lib.hid (HB0.out.trans (hb1.mono HB0.out.size))
                    clear hb1
                    have HBF : Hid (Below w.heap.size w W1) := Lib.hid (HBR.out.trans ((HBV.out.trans (HB1.out.mono HBV.out.size)).mono HBR.out.size))
                    go_wp2_with fail
                    go_ret
                    rw [HE.out]
                    exact ⟨rfl, HBF.out⟩
                  | true =>
                    cases q3 with
                    | false =>
                      have HE : Hid (sameSs ss ts = false) := Lib.hid (sameSs_no (by rw [HL.out, HLf.out]) (by rw [HL.out]; exact hlt) (by
                        rw [← HEx.out, ← HEy.out, sameS_eq]
                        simp [SL.kind, SL.num, SL.name, SL.args, SL.body, SL.els, ← HQ3.out]))
                      have kx0 : V.cell? ⟨gx, 0, none⟩ = some (.int .i64 xk) := held_cells HKX.out (Below.refl _ _) 0
                      have kx1 : V.cell? ⟨gx, 1, none⟩ = some (.int .i64 xm) := held_cells HKX.out (Below.refl _ _) 1
                      have kx2 : V.cell? ⟨gx, 2, none⟩ = some (.string (bs xs)) := held_cells HKX.out (Below.refl _ _) 2
                      have kx3 : V.cell? ⟨gx, 3, none⟩ = some (.slice xA xn xc') := held_cells HKX.out (Below.refl _ _) 3
                      have ky0 : V.cell? ⟨gy, 0, none⟩ = some (.int .i64 xk) := held_cells HKY.out (Below.refl _ _) 0
                      have ky1 : V.cell? ⟨gy, 1, none⟩ = some (.int .i64 xm) := held_cells HKY.out (Below.refl _ _) 1
                      have ky2 : V.cell? ⟨gy, 2, none⟩ = some (.string (bs xs)) := held_cells HKY.out (Below.refl _ _) 2
                      have ky3 : V.cell? ⟨gy, 3, none⟩ = some (.slice yA yn yc') := held_cells HKY.out (Below.refl _ _) 3
                      go_wp2_with fail
                      refine (HCA.out V (HBV.out.trans ((Below.refl V.heap.size V).mono HBV.out.size))).mono ?_
                      rintro f W0 ⟨rfl, hb0⟩
                      have HB0 : Hid (Below V.heap.size V W0) := Lib.hid ((Below.refl V.heap.size V).trans (hb0.mono (Below.refl V.heap.size V).size))
                      clear hb0
                      have k0x4 : W0.cell? ⟨gx, 4, none⟩ = some (.slice xA1 xn1 xc1) := held_cells HKX.out HB0.out 4
                      have k0y4 : W0.cell? ⟨gy, 4, none⟩ = some (.slice yA1 yn1 yc1) := held_cells HKY.out HB0.out 4
                      go_wp2_with fail
                      refine (HCB.out W0 (HBV.out.trans (HB0.out.mono HBV.out.size))).mono ?_
                      rintro f W1 ⟨rfl, hb1⟩
                      have HB1 : Hid (Below V.heap.size V W1) := Lib.hid (HB0.out.trans (hb1.mono HB0.out.size))
                      clear hb1
                      have k1x5 : W1.cell? ⟨gx, 5, none⟩ = some (.slice xA2 xn2 xc2) := held_cells HKX.out HB1.out 5
                      have k1y5 : W1.cell? ⟨gy, 5, none⟩ = some (.slice yA2 yn2 yc2) := held_cells HKY.out HB1.out 5
                      go_wp2_with fail
                      refine (HCE.out W1 (HBV.out.trans (HB1.out.mono HBV.out.size))).mono ?_
                      rintro f W2 ⟨rfl, hb2⟩
                      have HB2 : Hid (Below V.heap.size V W2) := Lib.hid (HB1.out.trans (hb2.mono HB1.out.size))
                      clear hb2
                      have HBF : Hid (Below w.heap.size w W2) := Lib.hid (HBR.out.trans ((HBV.out.trans (HB2.out.mono HBV.out.size)).mono HBR.out.size))
                      go_wp2_with fail
                      go_ret
                      rw [HE.out]
                      exact ⟨rfl, HBF.out⟩
                    | true =>
                      have HN : Hid (∀ i, i < j + 1 → sameS (ss[i]?.getD nilS) (ts[i]?.getD nilS) = true) := Lib.hid (fun i hi => by
                        by_cases e : i = j
                        · subst e
                          rw [← HEx.out, ← HEy.out, sameS_eq]
                          simp [SL.kind, SL.num, SL.name, SL.args, SL.body, SL.els, ← HQ1.out, ← HQ2.out, ← HQ3.out]
                        · exact HSO.out i (by omega))
                      have kx0 : V.cell? ⟨gx, 0, none⟩ = some (.int .i64 xk) := held_cells HKX.out (Below.refl _ _) 0
                      have kx1 : V.cell? ⟨gx, 1, none⟩ = some (.int .i64 xm) := held_cells HKX.out (Below.refl _ _) 1
                      have kx2 : V.cell? ⟨gx, 2, none⟩ = some (.string (bs xs)) := held_cells HKX.out (Below.refl _ _) 2
                      have kx3 : V.cell? ⟨gx, 3, none⟩ = some (.slice xA xn xc') := held_cells HKX.out (Below.refl _ _) 3
                      have ky0 : V.cell? ⟨gy, 0, none⟩ = some (.int .i64 xk) := held_cells HKY.out (Below.refl _ _) 0
                      have ky1 : V.cell? ⟨gy, 1, none⟩ = some (.int .i64 xm) := held_cells HKY.out (Below.refl _ _) 1
                      have ky2 : V.cell? ⟨gy, 2, none⟩ = some (.string (bs xs)) := held_cells HKY.out (Below.refl _ _) 2
                      have ky3 : V.cell? ⟨gy, 3, none⟩ = some (.slice yA yn yc') := held_cells HKY.out (Below.refl _ _) 3
                      go_wp2_with fail
                      refine (HCA.out V (HBV.out.trans ((Below.refl V.heap.size V).mono HBV.out.size))).mono ?_
                      rintro f W0 ⟨rfl, hb0⟩
                      have HB0 : Hid (Below V.heap.size V W0) := Lib.hid ((Below.refl V.heap.size V).trans (hb0.mono (Below.refl V.heap.size V).size))
                      clear hb0
                      have k0x4 : W0.cell? ⟨gx, 4, none⟩ = some (.slice xA1 xn1 xc1) := held_cells HKX.out HB0.out 4
                      have k0y4 : W0.cell? ⟨gy, 4, none⟩ = some (.slice yA1 yn1 yc1) := held_cells HKY.out HB0.out 4
                      go_wp2_with fail
                      refine (HCB.out W0 (HBV.out.trans (HB0.out.mono HBV.out.size))).mono ?_
                      rintro f W1 ⟨rfl, hb1⟩
                      have HB1 : Hid (Below V.heap.size V W1) := Lib.hid (HB0.out.trans (hb1.mono HB0.out.size))
                      clear hb1
                      have k1x5 : W1.cell? ⟨gx, 5, none⟩ = some (.slice xA2 xn2 xc2) := held_cells HKX.out HB1.out 5
                      have k1y5 : W1.cell? ⟨gy, 5, none⟩ = some (.slice yA2 yn2 yc2) := held_cells HKY.out HB1.out 5
                      go_wp2_with fail
                      refine (HCE.out W1 (HBV.out.trans (HB1.out.mono HBV.out.size))).mono ?_
                      rintro f W2 ⟨rfl, hb2⟩
                      have HB2 : Hid (Below V.heap.size V W2) := Lib.hid (HB1.out.trans (hb2.mono HB1.out.size))
                      clear hb2
                      have HBF : Hid (Below w.heap.size w W2) := Lib.hid (HBR.out.trans ((HBV.out.trans (HB2.out.mono HBV.out.size)).mono HBR.out.size))
                      go_wp2_with fail
                      go_roundw
                      case rel => exact ⟨j + 1, by omega, by go_num, HN, HBF⟩
                      case measure => simp [intOf]; omega
              · have t3 : ((bs xs).toList == (bs ys).toList) = false := beq_eq_false_iff_ne.2 (fun e => h3 (by rw [bs_list9, bs_list9] at e; exact e))
                have HE : Hid (sameSs ss ts = false) := Lib.hid (sameSs_no (by rw [HL.out, HLf.out]) (by rw [HL.out]; exact hlt) (by
                  rw [← HEx.out, ← HEy.out, sameS_eq]
                  simp [SL.kind, SL.num, SL.name, SL.args, SL.body, SL.els, h3]))
                have qx0 : V.cell? ⟨gx, 0, none⟩ = some (.int .i64 xk) := held_cells HKX.out (Below.refl _ _) 0
                have qx1 : V.cell? ⟨gx, 1, none⟩ = some (.int .i64 xm) := held_cells HKX.out (Below.refl _ _) 1
                have qx2 : V.cell? ⟨gx, 2, none⟩ = some (.string (bs xs)) := held_cells HKX.out (Below.refl _ _) 2
                have qy0 : V.cell? ⟨gy, 0, none⟩ = some (.int .i64 yk) := held_cells HKY.out (Below.refl _ _) 0
                have qy1 : V.cell? ⟨gy, 1, none⟩ = some (.int .i64 ym) := held_cells HKY.out (Below.refl _ _) 1
                have qy2 : V.cell? ⟨gy, 2, none⟩ = some (.string (bs ys)) := held_cells HKY.out (Below.refl _ _) 2
                go_wp2_with fail
                have HBF : Hid (Below w.heap.size w V) := Lib.hid (HBR.out.trans ((HBV.out.trans ((Below.refl V.heap.size V).mono HBV.out.size)).mono HBR.out.size))
                go_wp2_with fail
                go_ret
                rw [HE.out]
                exact ⟨rfl, HBF.out⟩
            · have t2 : (xm != ym) = true := by rw [bne_iff_ne]; exact h2
              have t2' : (xm == ym) = false := by rw [beq_eq_false_iff_ne]; exact h2
              have HE : Hid (sameSs ss ts = false) := Lib.hid (sameSs_no (by rw [HL.out, HLf.out]) (by rw [HL.out]; exact hlt) (by
                rw [← HEx.out, ← HEy.out, sameS_eq]
                simp [SL.kind, SL.num, SL.name, SL.args, SL.body, SL.els, h2]))
              have qx0 : V.cell? ⟨gx, 0, none⟩ = some (.int .i64 xk) := held_cells HKX.out (Below.refl _ _) 0
              have qx1 : V.cell? ⟨gx, 1, none⟩ = some (.int .i64 xm) := held_cells HKX.out (Below.refl _ _) 1
              have qx2 : V.cell? ⟨gx, 2, none⟩ = some (.string (bs xs)) := held_cells HKX.out (Below.refl _ _) 2
              have qy0 : V.cell? ⟨gy, 0, none⟩ = some (.int .i64 yk) := held_cells HKY.out (Below.refl _ _) 0
              have qy1 : V.cell? ⟨gy, 1, none⟩ = some (.int .i64 ym) := held_cells HKY.out (Below.refl _ _) 1
              have qy2 : V.cell? ⟨gy, 2, none⟩ = some (.string (bs ys)) := held_cells HKY.out (Below.refl _ _) 2
              go_wp2_with fail
              have HBF : Hid (Below w.heap.size w V) := Lib.hid (HBR.out.trans ((HBV.out.trans ((Below.refl V.heap.size V).mono HBV.out.size)).mono HBR.out.size))
              go_wp2_with fail
              go_ret
              rw [HE.out]
              exact ⟨rfl, HBF.out⟩
          · have t1 : (xk != yk) = true := by rw [bne_iff_ne]; exact h1
            have t1' : (xk == yk) = false := by rw [beq_eq_false_iff_ne]; exact h1
            have HE : Hid (sameSs ss ts = false) := Lib.hid (sameSs_no (by rw [HL.out, HLf.out]) (by rw [HL.out]; exact hlt) (by
              rw [← HEx.out, ← HEy.out, sameS_eq]
              simp [SL.kind, SL.num, SL.name, SL.args, SL.body, SL.els, h1]))
            have qx0 : V.cell? ⟨gx, 0, none⟩ = some (.int .i64 xk) := held_cells HKX.out (Below.refl _ _) 0
            have qx1 : V.cell? ⟨gx, 1, none⟩ = some (.int .i64 xm) := held_cells HKX.out (Below.refl _ _) 1
            have qx2 : V.cell? ⟨gx, 2, none⟩ = some (.string (bs xs)) := held_cells HKX.out (Below.refl _ _) 2
            have qy0 : V.cell? ⟨gy, 0, none⟩ = some (.int .i64 yk) := held_cells HKY.out (Below.refl _ _) 0
            have qy1 : V.cell? ⟨gy, 1, none⟩ = some (.int .i64 ym) := held_cells HKY.out (Below.refl _ _) 1
            have qy2 : V.cell? ⟨gy, 2, none⟩ = some (.string (bs ys)) := held_cells HKY.out (Below.refl _ _) 2
            go_wp2_with fail
            have HBF : Hid (Below w.heap.size w V) := Lib.hid (HBR.out.trans ((HBV.out.trans ((Below.refl V.heap.size V).mono HBV.out.size)).mono HBR.out.size))
            go_wp2_with fail
            go_ret
            rw [HE.out]
            exact ⟨rfl, HBF.out⟩

        · clear ALL
          obtain ⟨V, hV⟩ : ∃ V, V = ((wr.alloc (.cells #[.int .i64 yk, .int .i64 ym, .string (bs ys), .slice yA yn yc', .slice yA1 yn1 yc1, .slice yA2 yn2 yc2] 47)).alloc (.cells #[.int .i64 xk, .int .i64 xm, .string (bs xs), .slice xA xn xc', .slice xA1 xn1 xc1, .slice xA2 xn2 xc2] 47)).drew := ⟨_, rfl⟩
          rw [← hV]
          obtain ⟨gy, hgy⟩ : ∃ g, g = wr.heap.size := ⟨_, rfl⟩
          obtain ⟨gx, hgx⟩ : ∃ g, g = wr.heap.size + 1 := ⟨_, rfl⟩
          rw [← hgx, ← hgy]
          have HKY : Hid (Blk V gy 47 #[.int .i64 yk, .int .i64 ym, .string (bs ys), .slice yA yn yc', .slice yA1 yn1 yc1, .slice yA2 yn2 yc2]) := Lib.hid (by rw [hV, hgy]; exact (Blk.new wr _ _).alloc _)
          have HKX : Hid (Blk V gx 47 #[.int .i64 xk, .int .i64 xm, .string (bs xs), .slice xA xn xc', .slice xA1 xn1 xc1, .slice xA2 xn2 xc2]) := Lib.hid (by rw [hV, hgx]; exact Blk.new_at (wr.alloc (.cells #[.int .i64 yk, .int .i64 ym, .string (bs ys), .slice yA yn yc', .slice yA1 yn1 yc1, .slice yA2 yn2 yc2] 47)) 47 #[.int .i64 xk, .int .i64 xm, .string (bs xs), .slice xA xn xc', .slice xA1 xn1 xc1, .slice xA2 xn2 xc2] _ (by simp))
          have HBV : Hid (Below wr.heap.size wr V) := Lib.hid (by rw [hV]; exact (((Below.refl _ _).alloc (Nat.le_refl _) _).alloc (by simp) _).drew)
          clear hV hgy hgx
          by_cases h1 : xk = yk
          · have t1 : (xk != yk) = false := by simpa using h1
            have t1' : (xk == yk) = true := by simpa using h1
            by_cases h2 : xm = ym
            · have t2 : (xm != ym) = false := by simpa using h2
              have t2' : (xm == ym) = true := by simpa using h2
              by_cases h3 : xs = ys
              · subst h1
                subst h2
                subst h3
                have t3 : ((bs xs).toList == (bs xs).toList) = true := by simp
                clear t1 t2
                cases q1 with
                | false =>
                  have HE : Hid (sameSs ss ts = false) := Lib.hid (sameSs_no (by rw [HL.out, HLf.out]) (by rw [HL.out]; exact hlt) (by
                    rw [← HEx.out, ← HEy.out, sameS_eq]
                    simp [SL.kind, SL.num, SL.name, SL.args, SL.body, SL.els, ← HQ1.out]))
                  have kx0 : V.cell? ⟨gx, 0, none⟩ = some (.int .i64 xk) := held_cells HKX.out (Below.refl _ _) 0
                  have kx1 : V.cell? ⟨gx, 1, none⟩ = some (.int .i64 xm) := held_cells HKX.out (Below.refl _ _) 1
                  have kx2 : V.cell? ⟨gx, 2, none⟩ = some (.string (bs xs)) := held_cells HKX.out (Below.refl _ _) 2
                  have kx3 : V.cell? ⟨gx, 3, none⟩ = some (.slice xA xn xc') := held_cells HKX.out (Below.refl _ _) 3
                  have ky0 : V.cell? ⟨gy, 0, none⟩ = some (.int .i64 xk) := held_cells HKY.out (Below.refl _ _) 0
                  have ky1 : V.cell? ⟨gy, 1, none⟩ = some (.int .i64 xm) := held_cells HKY.out (Below.refl _ _) 1
                  have ky2 : V.cell? ⟨gy, 2, none⟩ = some (.string (bs xs)) := held_cells HKY.out (Below.refl _ _) 2
                  have ky3 : V.cell? ⟨gy, 3, none⟩ = some (.slice yA yn yc') := held_cells HKY.out (Below.refl _ _) 3
                  go_wp2_with fail
                  refine (HCA.out V (HBV.out.trans ((Below.refl V.heap.size V).mono HBV.out.size))).mono ?_
                  rintro f W0 ⟨rfl, hb0⟩
                  have HB0 : Hid (Below V.heap.size V W0) := Lib.hid ((Below.refl V.heap.size V).trans (hb0.mono (Below.refl V.heap.size V).size))
                  clear hb0
                  have HBF : Hid (Below w.heap.size w W0) := Lib.hid (HBR.out.trans ((HBV.out.trans (HB0.out.mono HBV.out.size)).mono HBR.out.size))
                  go_wp2_with fail
                  go_ret
                  rw [HE.out]
                  exact ⟨rfl, HBF.out⟩
                | true =>
                  cases q2 with
                  | false =>
                    have HE : Hid (sameSs ss ts = false) := Lib.hid (sameSs_no (by rw [HL.out, HLf.out]) (by rw [HL.out]; exact hlt) (by
                      rw [← HEx.out, ← HEy.out, sameS_eq]
                      simp [SL.kind, SL.num, SL.name, SL.args, SL.body, SL.els, ← HQ2.out]))
                    have kx0 : V.cell? ⟨gx, 0, none⟩ = some (.int .i64 xk) := held_cells HKX.out (Below.refl _ _) 0
                    have kx1 : V.cell? ⟨gx, 1, none⟩ = some (.int .i64 xm) := held_cells HKX.out (Below.refl _ _) 1
                    have kx2 : V.cell? ⟨gx, 2, none⟩ = some (.string (bs xs)) := held_cells HKX.out (Below.refl _ _) 2
                    have kx3 : V.cell? ⟨gx, 3, none⟩ = some (.slice xA xn xc') := held_cells HKX.out (Below.refl _ _) 3
                    have ky0 : V.cell? ⟨gy, 0, none⟩ = some (.int .i64 xk) := held_cells HKY.out (Below.refl _ _) 0
                    have ky1 : V.cell? ⟨gy, 1, none⟩ = some (.int .i64 xm) := held_cells HKY.out (Below.refl _ _) 1
                    have ky2 : V.cell? ⟨gy, 2, none⟩ = some (.string (bs xs)) := held_cells HKY.out (Below.refl _ _) 2
                    have ky3 : V.cell? ⟨gy, 3, none⟩ = some (.slice yA yn yc') := held_cells HKY.out (Below.refl _ _) 3
                    go_wp2_with fail
                    refine (HCA.out V (HBV.out.trans ((Below.refl V.heap.size V).mono HBV.out.size))).mono ?_
                    rintro f W0 ⟨rfl, hb0⟩
                    have HB0 : Hid (Below V.heap.size V W0) := Lib.hid ((Below.refl V.heap.size V).trans (hb0.mono (Below.refl V.heap.size V).size))
                    clear hb0
                    have k0x4 : W0.cell? ⟨gx, 4, none⟩ = some (.slice xA1 xn1 xc1) := held_cells HKX.out HB0.out 4
                    have k0y4 : W0.cell? ⟨gy, 4, none⟩ = some (.slice yA1 yn1 yc1) := held_cells HKY.out HB0.out 4
                    go_wp2_with fail
                    refine (HCB.out W0 (HBV.out.trans (HB0.out.mono HBV.out.size))).mono ?_
                    rintro f W1 ⟨rfl, hb1⟩
                    have HB1 : Hid (Below V.heap.size V W1) := Lib.hid (HB0.out.trans (hb1.mono HB0.out.size))
                    clear hb1
                    have HBF : Hid (Below w.heap.size w W1) := Lib.hid (HBR.out.trans ((HBV.out.trans (HB1.out.mono HBV.out.size)).mono HBR.out.size))
                    go_wp2_with fail
                    go_ret
                    rw [HE.out]
                    exact ⟨rfl, HBF.out⟩
                  | true =>
                    cases q3 with
                    | false =>
                      have HE : Hid (sameSs ss ts = false) := Lib.hid (sameSs_no (by rw [HL.out, HLf.out]) (by rw [HL.out]; exact hlt) (by
                        rw [← HEx.out, ← HEy.out, sameS_eq]
                        simp [SL.kind, SL.num, SL.name, SL.args, SL.body, SL.els, ← HQ3.out]))
                      have kx0 : V.cell? ⟨gx, 0, none⟩ = some (.int .i64 xk) := held_cells HKX.out (Below.refl _ _) 0
                      have kx1 : V.cell? ⟨gx, 1, none⟩ = some (.int .i64 xm) := held_cells HKX.out (Below.refl _ _) 1
                      have kx2 : V.cell? ⟨gx, 2, none⟩ = some (.string (bs xs)) := held_cells HKX.out (Below.refl _ _) 2
                      have kx3 : V.cell? ⟨gx, 3, none⟩ = some (.slice xA xn xc') := held_cells HKX.out (Below.refl _ _) 3
                      have ky0 : V.cell? ⟨gy, 0, none⟩ = some (.int .i64 xk) := held_cells HKY.out (Below.refl _ _) 0
                      have ky1 : V.cell? ⟨gy, 1, none⟩ = some (.int .i64 xm) := held_cells HKY.out (Below.refl _ _) 1
                      have ky2 : V.cell? ⟨gy, 2, none⟩ = some (.string (bs xs)) := held_cells HKY.out (Below.refl _ _) 2
                      have ky3 : V.cell? ⟨gy, 3, none⟩ = some (.slice yA yn yc') := held_cells HKY.out (Below.refl _ _) 3
                      go_wp2_with fail
                      refine (HCA.out V (HBV.out.trans ((Below.refl V.heap.size V).mono HBV.out.size))).mono ?_
                      rintro f W0 ⟨rfl, hb0⟩
                      have HB0 : Hid (Below V.heap.size V W0) := Lib.hid ((Below.refl V.heap.size V).trans (hb0.mono (Below.refl V.heap.size V).size))
                      clear hb0
                      have k0x4 : W0.cell? ⟨gx, 4, none⟩ = some (.slice xA1 xn1 xc1) := held_cells HKX.out HB0.out 4
                      have k0y4 : W0.cell? ⟨gy, 4, none⟩ = some (.slice yA1 yn1 yc1) := held_cells HKY.out HB0.out 4
                      go_wp2_with fail
                      refine (HCB.out W0 (HBV.out.trans (HB0.out.mono HBV.out.size))).mono ?_
                      rintro f W1 ⟨rfl, hb1⟩
                      have HB1 : Hid (Below V.heap.size V W1) := Lib.hid (HB0.out.trans (hb1.mono HB0.out.size))
                      clear hb1
                      have k1x5 : W1.cell? ⟨gx, 5, none⟩ = some (.slice xA2 xn2 xc2) := held_cells HKX.out HB1.out 5
                      have k1y5 : W1.cell? ⟨gy, 5, none⟩ = some (.slice yA2 yn2 yc2) := held_cells HKY.out HB1.out 5
                      go_wp2_with fail
                      refine (HCE.out W1 (HBV.out.trans (HB1.out.mono HBV.out.size))).mono ?_
                      rintro f W2 ⟨rfl, hb2⟩
                      have HB2 : Hid (Below V.heap.size V W2) := Lib.hid (HB1.out.trans (hb2.mono HB1.out.size))
                      clear hb2
                      have HBF : Hid (Below w.heap.size w W2) := Lib.hid (HBR.out.trans ((HBV.out.trans (HB2.out.mono HBV.out.size)).mono HBR.out.size))
                      go_wp2_with fail
                      go_ret
                      rw [HE.out]
                      exact ⟨rfl, HBF.out⟩
                    | true =>
                      have HN : Hid (∀ i, i < j + 1 → sameS (ss[i]?.getD nilS) (ts[i]?.getD nilS) = true) := Lib.hid (fun i hi => by
                        by_cases e : i = j
                        · subst e
                          rw [← HEx.out, ← HEy.out, sameS_eq]
                          simp [SL.kind, SL.num, SL.name, SL.args, SL.body, SL.els, ← HQ1.out, ← HQ2.out, ← HQ3.out]
                        · exact HSO.out i (by omega))
                      have kx0 : V.cell? ⟨gx, 0, none⟩ = some (.int .i64 xk) := held_cells HKX.out (Below.refl _ _) 0
                      have kx1 : V.cell? ⟨gx, 1, none⟩ = some (.int .i64 xm) := held_cells HKX.out (Below.refl _ _) 1
                      have kx2 : V.cell? ⟨gx, 2, none⟩ = some (.string (bs xs)) := held_cells HKX.out (Below.refl _ _) 2
                      have kx3 : V.cell? ⟨gx, 3, none⟩ = some (.slice xA xn xc') := held_cells HKX.out (Below.refl _ _) 3
                      have ky0 : V.cell? ⟨gy, 0, none⟩ = some (.int .i64 xk) := held_cells HKY.out (Below.refl _ _) 0
                      have ky1 : V.cell? ⟨gy, 1, none⟩ = some (.int .i64 xm) := held_cells HKY.out (Below.refl _ _) 1
                      have ky2 : V.cell? ⟨gy, 2, none⟩ = some (.string (bs xs)) := held_cells HKY.out (Below.refl _ _) 2
                      have ky3 : V.cell? ⟨gy, 3, none⟩ = some (.slice yA yn yc') := held_cells HKY.out (Below.refl _ _) 3
                      go_wp2_with fail
                      refine (HCA.out V (HBV.out.trans ((Below.refl V.heap.size V).mono HBV.out.size))).mono ?_
                      rintro f W0 ⟨rfl, hb0⟩
                      have HB0 : Hid (Below V.heap.size V W0) := Lib.hid ((Below.refl V.heap.size V).trans (hb0.mono (Below.refl V.heap.size V).size))
                      clear hb0
                      have k0x4 : W0.cell? ⟨gx, 4, none⟩ = some (.slice xA1 xn1 xc1) := held_cells HKX.out HB0.out 4
                      have k0y4 : W0.cell? ⟨gy, 4, none⟩ = some (.slice yA1 yn1 yc1) := held_cells HKY.out HB0.out 4
                      go_wp2_with fail
                      refine (HCB.out W0 (HBV.out.trans (HB0.out.mono HBV.out.size))).mono ?_
                      rintro f W1 ⟨rfl, hb1⟩
                      have HB1 : Hid (Below V.heap.size V W1) := Lib.hid (HB0.out.trans (hb1.mono HB0.out.size))
                      clear hb1
                      have k1x5 : W1.cell? ⟨gx, 5, none⟩ = some (.slice xA2 xn2 xc2) := held_cells HKX.out HB1.out 5
                      have k1y5 : W1.cell? ⟨gy, 5, none⟩ = some (.slice yA2 yn2 yc2) := held_cells HKY.out HB1.out 5
                      go_wp2_with fail
                      refine (HCE.out W1 (HBV.out.trans (HB1.out.mono HBV.out.size))).mono ?_
                      rintro f W2 ⟨rfl, hb2⟩
                      have HB2 : Hid (Below V.heap.size V W2) := Lib.hid (HB1.out.trans (hb2.mono HB1.out.size))
                      clear hb2
                      have HBF : Hid (Below w.heap.size w W2) := Lib.hid (HBR.out.trans ((HBV.out.trans (HB2.out.mono HBV.out.size)).mono HBR.out.size))
                      go_wp2_with fail
                      go_roundw
                      case rel => exact ⟨j + 1, by omega, by go_num, HN, HBF⟩
                      case measure => simp [intOf]; omega
              · have t3 : ((bs xs).toList == (bs ys).toList) = false := beq_eq_false_iff_ne.2 (fun e => h3 (by rw [bs_list9, bs_list9] at e; exact e))
                have HE : Hid (sameSs ss ts = false) := Lib.hid (sameSs_no (by rw [HL.out, HLf.out]) (by rw [HL.out]; exact hlt) (by
                  rw [← HEx.out, ← HEy.out, sameS_eq]
                  simp [SL.kind, SL.num, SL.name, SL.args, SL.body, SL.els, h3]))
                have qx0 : V.cell? ⟨gx, 0, none⟩ = some (.int .i64 xk) := held_cells HKX.out (Below.refl _ _) 0
                have qx1 : V.cell? ⟨gx, 1, none⟩ = some (.int .i64 xm) := held_cells HKX.out (Below.refl _ _) 1
                have qx2 : V.cell? ⟨gx, 2, none⟩ = some (.string (bs xs)) := held_cells HKX.out (Below.refl _ _) 2
                have qy0 : V.cell? ⟨gy, 0, none⟩ = some (.int .i64 yk) := held_cells HKY.out (Below.refl _ _) 0
                have qy1 : V.cell? ⟨gy, 1, none⟩ = some (.int .i64 ym) := held_cells HKY.out (Below.refl _ _) 1
                have qy2 : V.cell? ⟨gy, 2, none⟩ = some (.string (bs ys)) := held_cells HKY.out (Below.refl _ _) 2
                go_wp2_with fail
                have HBF : Hid (Below w.heap.size w V) := Lib.hid (HBR.out.trans ((HBV.out.trans ((Below.refl V.heap.size V).mono HBV.out.size)).mono HBR.out.size))
                go_wp2_with fail
                go_ret
                rw [HE.out]
                exact ⟨rfl, HBF.out⟩
            · have t2 : (xm != ym) = true := by rw [bne_iff_ne]; exact h2
              have t2' : (xm == ym) = false := by rw [beq_eq_false_iff_ne]; exact h2
              have HE : Hid (sameSs ss ts = false) := Lib.hid (sameSs_no (by rw [HL.out, HLf.out]) (by rw [HL.out]; exact hlt) (by
                rw [← HEx.out, ← HEy.out, sameS_eq]
                simp [SL.kind, SL.num, SL.name, SL.args, SL.body, SL.els, h2]))
              have qx0 : V.cell? ⟨gx, 0, none⟩ = some (.int .i64 xk) := held_cells HKX.out (Below.refl _ _) 0
              have qx1 : V.cell? ⟨gx, 1, none⟩ = some (.int .i64 xm) := held_cells HKX.out (Below.refl _ _) 1
              have qx2 : V.cell? ⟨gx, 2, none⟩ = some (.string (bs xs)) := held_cells HKX.out (Below.refl _ _) 2
              have qy0 : V.cell? ⟨gy, 0, none⟩ = some (.int .i64 yk) := held_cells HKY.out (Below.refl _ _) 0
              have qy1 : V.cell? ⟨gy, 1, none⟩ = some (.int .i64 ym) := held_cells HKY.out (Below.refl _ _) 1
              have qy2 : V.cell? ⟨gy, 2, none⟩ = some (.string (bs ys)) := held_cells HKY.out (Below.refl _ _) 2
              go_wp2_with fail
              have HBF : Hid (Below w.heap.size w V) := Lib.hid (HBR.out.trans ((HBV.out.trans ((Below.refl V.heap.size V).mono HBV.out.size)).mono HBR.out.size))
              go_wp2_with fail
              go_ret
              rw [HE.out]
              exact ⟨rfl, HBF.out⟩
          · have t1 : (xk != yk) = true := by rw [bne_iff_ne]; exact h1
            have t1' : (xk == yk) = false := by rw [beq_eq_false_iff_ne]; exact h1
            have HE : Hid (sameSs ss ts = false) := Lib.hid (sameSs_no (by rw [HL.out, HLf.out]) (by rw [HL.out]; exact hlt) (by
              rw [← HEx.out, ← HEy.out, sameS_eq]
              simp [SL.kind, SL.num, SL.name, SL.args, SL.body, SL.els, h1]))
            have qx0 : V.cell? ⟨gx, 0, none⟩ = some (.int .i64 xk) := held_cells HKX.out (Below.refl _ _) 0
            have qx1 : V.cell? ⟨gx, 1, none⟩ = some (.int .i64 xm) := held_cells HKX.out (Below.refl _ _) 1
            have qx2 : V.cell? ⟨gx, 2, none⟩ = some (.string (bs xs)) := held_cells HKX.out (Below.refl _ _) 2
            have qy0 : V.cell? ⟨gy, 0, none⟩ = some (.int .i64 yk) := held_cells HKY.out (Below.refl _ _) 0
            have qy1 : V.cell? ⟨gy, 1, none⟩ = some (.int .i64 ym) := held_cells HKY.out (Below.refl _ _) 1
            have qy2 : V.cell? ⟨gy, 2, none⟩ = some (.string (bs ys)) := held_cells HKY.out (Below.refl _ _) 2
            go_wp2_with fail
            have HBF : Hid (Below w.heap.size w V) := Lib.hid (HBR.out.trans ((HBV.out.trans ((Below.refl V.heap.size V).mono HBV.out.size)).mono HBR.out.size))
            go_wp2_with fail
            go_ret
            rw [HE.out]
            exact ⟨rfl, HBF.out⟩

      · obtain rfl : j = n := by omega
        have HE : Hid (sameSs ss ts = true) := Lib.hid ((sameSs_at (by rw [HL.out, HLf.out])).2 (by rw [HL.out]; exact HSO.out))
        go_wp2_with fail
        go_ret
        rw [HE.out]
        exact ⟨rfl, HBR.out⟩
  · have HE : Hid (sameSs ss ts = false) := Lib.hid (by
      cases hs : sameSs ss ts with
      | false => rfl
      | true => have := sameSs_len hs; omega)
    have t0 : ((n : Int) == (m : Int)) = false := by rw [beq_eq_false_iff_ne]; omega
    have t1 : ((n : Int) != (m : Int)) = true := by rw [bne_iff_ne]; omega
    clear hA hAi hB hBi hS hn hm hnm
    go_enter Try.func23, Try.ntmps23
    go_wp2_with fail
    go_ret
    rw [HE.out]
    exact ⟨rfl, Below.refl _ _⟩

theorem sameL_all : ∀ x : SL, SameL x.body ∧ SameL x.els := SL.ind fun s h1 h2 => ⟨r10SameBlock_of s.body h1, r10SameBlock_of s.els h2⟩

theorem r10SameBlock_any (ss : List SL) : SameL ss := r10SameBlock_of ss fun x _ => sameL_all x

end Go.Proofs.Ytdmpadonnobeaaa
