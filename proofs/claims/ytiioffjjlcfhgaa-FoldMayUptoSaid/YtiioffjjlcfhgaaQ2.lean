/- Contracts and lemmas that the proofs of this seat use. -/
import Derived.Test.YtiioffjjlcfhgaaQ1
import Derived.Laws.StructEq
import Derived.Laws.ResultCell
import Derived.Deep.RegionHeld3
import Derived.Deep.CutBlock
namespace Go.Proofs.Ytiioffjjlcfhgaa

section
open Go.RowKit

set_option maxRecDepth 100000 in
set_option maxHeartbeats 800000 in
theorem r10greater_any (w : World) (a b : Nat) : Calls Try.prog 90 #[.int .i64 a, .int .i64 b] w fun f w' => f = .returned (.int .i64 ((max a b : Nat) : Int)) ∧ Below w.heap.size w w' := by
  by_cases h : b < a
  · have hi : (b : Int) < (a : Int) := by omega
    have e : max a b = a := by omega
    rw [e]
    clear e h
    go_enter Try.func90, Try.ntmps90
    go_wp2_with fail
    go_ret
    exact ⟨rfl, Below.refl _ _⟩
  · have hi : ¬ (b : Int) < (a : Int) := by omega
    have e : max a b = b := by omega
    rw [e]
    clear e h
    go_enter Try.func90, Try.ntmps90
    go_wp2_with fail
    go_ret
    exact ⟨rfl, Below.refl _ _⟩

/-- the greatest depth of what statements hold -/
def depMs : List SL → Nat
  | [] => 0
  | x :: r => max (depS x) (depMs r)
theorem depMs_cons (x : SL) (r : List SL) : depMs (x :: r) = max (depS x) (depMs r) := rfl
theorem depMs_app (a b : List SL) : depMs (a ++ b) = max (depMs a) (depMs b) := by
  induction a with
  | nil => rw [List.nil_append]; show _ = max 0 _; omega
  | cons x a ih => rw [List.cons_append, depMs_cons, depMs_cons, ih, Nat.max_assoc]
theorem depMs_take {l : List SL} {j : Nat} (h : j < l.length) : depMs (l.take (j + 1)) = max (depMs (l.take j)) (depS (l[j]?.getD nilS)) := by
  rw [List.take_succ_eq_append_getElem h, depMs_app, List.getElem?_eq_getElem h]
  show max _ (max _ 0) = _
  rw [Nat.max_zero]
  rfl
theorem depSs_eq : ∀ {l : List SL}, l ≠ [] → depSs l = depMs l + 1 := by
  intro l
  induction l with
  | nil => intro h; exact absurd rfl h
  | cons x r ih =>
    intro _
    rw [depSs_cons, depMs_cons]
    cases r with
    | nil =>
      show max _ (depSs []) = max _ 0 + 1
      unfold depSs
      omega
    | cons y r =>
      rw [ih (by simp)]
      omega
theorem depSs_nil : depSs [] = 0 := by unfold depSs; rfl

set_option maxRecDepth 100000 in
set_option maxHeartbeats 6400000 in
theorem r10deepBlock_any : ∀ (k : Nat), (k : Int) ≤ 100000 → ∀ (ss : List SL) (A : Option Addr) (n c : Nat) (w : World), RowS6 w w.heap.size A n ss → SL.Ins w w.heap.size ss →
    Calls Try.prog 74 #[.slice A n c, .int .i64 ((k + 1 : Nat) : Int)] w fun f w' => f = .returned (.int .i64 ((min (k + 1) (depSs ss) : Nat) : Int)) ∧ Below w.heap.size w w' := by
  intro k
  induction k with
  | zero =>
    intro _ ss A n c w hrow _
    have hn : ss.length = n := hrow.1
    cases ss with
    | nil =>
      obtain rfl : 0 = n := hn
      rw [depSs_nil]
      show Calls Try.prog _ #[.slice A 0 c, .int .i64 1] w fun f w' => f = .returned (.int .i64 0) ∧ Below w.heap.size w w'
      go_enter Try.func74, Try.ntmps74
      go_wp2_with fail
      go_ret
      exact ⟨rfl, Below.refl _ _⟩
    | cons x r =>
      have e : min (0 + 1) (depSs (x :: r)) = 1 := by rw [depSs_eq (by simp)]; omega
      rw [e]
      have t0 : ((n : Int) == 0) = false := by rw [beq_eq_false_iff_ne]; rw [List.length_cons] at hn; omega
      clear hn hrow e
      show Calls Try.prog _ #[.slice A n c, .int .i64 1] w fun f w' => f = .returned (.int .i64 1) ∧ Below w.heap.size w w'
      go_enter Try.func74, Try.ntmps74
      go_wp2_with fail
      go_ret
      exact ⟨rfl, Below.refl _ _⟩
  | succ q ih =>
    intro hq ss A n c w hrow hins
    have IH := Lib.hid (ih (by omega))
    have hn : ss.length = n := hrow.1
    have hn9 : (n : Int) ≤ 9223372036854775807 := hrow.2.1
    obtain ⟨Q, hQ⟩ : ∃ Q : Nat, Q = q + 1 + 1 := ⟨_, rfl⟩
    have hqi : (1 : Int) < (Q : Int) := by omega
    have hqm : (Q : Int) ≤ 100002 := by omega
    rw [← hQ]
    have HQ := Lib.hid hQ
    have HQ9 : Hid ((q : Int) ≤ 100000) := Lib.hid (by omega)
    have wq : IntKind.i64.wrap ((Q : Int) - 1) = ((q + 1 : Nat) : Int) := by rw [IntKind.wrap_i64]; omega
    have wq2 : wrap64 ((Q : Int) - 1) = ((q + 1 : Nat) : Int) := by rw [IntWalk.wrap64_in _ (by omega)]; omega
    cases hss : ss with
    | nil =>
      subst hss
      obtain rfl : 0 = n := hn
      rw [depSs_nil, Nat.min_zero]
      clear hrow hins hQ
      go_enter Try.func74, Try.ntmps74
      go_wp2_with fail
      go_ret
      exact ⟨rfl, Below.refl _ _⟩
    | cons x0 r0 =>
      rw [← hss]
      have HSS : Hid (min Q (depSs ss) = min (q + 1) (depMs ss) + 1) := Lib.hid (by rw [depSs_eq (by rw [hss]; simp), hQ]; omega)
      have t0 : ((n : Int) == 0) = false := by rw [beq_eq_false_iff_ne]; rw [hss, List.length_cons] at hn; omega
      rw [HSS.out]
      have HR := Lib.hid hrow
      have HA := Lib.hid hins
      have HL := Lib.hid hn
      clear ih hrow hins hn hQ hss hq
      go_enter Try.func74, Try.ntmps74
      go_wp2_with fail
      go_loopw [5, 17] (fun vn vi wr => ∃ j d : Nat, j ≤ n ∧ vi = .int .i64 j ∧ vn = .int .i64 d ∧ Hid (d = min (q + 1) (depMs (ss.take j))) ∧ Hid (Below w.heap.size w wr)) (fun _ vi _ => n - (intOf vi).toNat)
      case atStart => exact ⟨0, 0, Nat.zero_le _, rfl, rfl, Lib.hid (by rw [List.take_zero]; show 0 = min _ 0; omega), Lib.hid (Below.refl _ _)⟩
      case round =>
        obtain ⟨j, d, hj, rfl, rfl, HD, HBR⟩ := hrel
        by_cases hlt : j < n
        · have hdt := depMs_take (l := ss) (j := j) (by rw [HL.out]; exact hlt)
          have hxjl : j < ss.length := by rw [HL.out]; exact hlt
          obtain ⟨xad, rfl, xab, xc⟩ := rowS_at (HR.out.below HBR.out) hlt
          have hx := HA.out.at hxjl
          have hxmem : (ss[j]?.getD nilS) ∈ ss := by rw [List.getElem?_eq_getElem hxjl]; exact List.getElem_mem _
          obtain ⟨x, hxe⟩ : ∃ x, x = ss[j]?.getD nilS := ⟨_, rfl⟩
          obtain ⟨a0, a1, a2, a3, a4, a5⟩ := xc x hxe
          rw [← hxe] at hx hxmem
          have HXx := Lib.hid hx
          have HEx := Lib.hid hxe
          have HMx := Lib.hid hxmem
          rw [← hxe, depS_eq] at hdt
          obtain ⟨hxp, hxq1, hxq2⟩ := hx.parts
          have hxr0 := hxp.2.2.1.1
          have hxi0 := hxp.2.2.1.2
          have hxr1 := hxp.2.2.2.1
          have hxr2 := hxp.2.2.2.2
          clear hxp
          obtain ⟨xk, xm, xs, xA, xn, xc', xes, xA1, xn1, xc1, xbo, xA2, xn2, xc2, xel⟩ := x
          change wr.cell? (xad.add (j * 6)) = some (.int .i64 xk) at a0
          change wr.cell? ⟨(xad.add (j * 6)).block, (xad.add (j * 6)).off + 1, none⟩ = some (.int .i64 xm) at a1
          change wr.cell? ⟨(xad.add (j * 6)).block, (xad.add (j * 6)).off + 2, none⟩ = some (.string (bs xs)) at a2
          change wr.cell? ⟨(xad.add (j * 6)).block, (xad.add (j * 6)).off + 3, none⟩ = some (.slice xA xn xc') at a3
          change wr.cell? ⟨(xad.add (j * 6)).block, (xad.add (j * 6)).off + 4, none⟩ = some (.slice xA1 xn1 xc1) at a4
          change wr.cell? ⟨(xad.add (j * 6)).block, (xad.add (j * 6)).off + 5, none⟩ = some (.slice xA2 xn2 xc2) at a5
          clear xc hxe hx hxmem hxjl
          have HDT : Hid (depMs (ss.take (j + 1)) = max (depMs (ss.take j)) (max (depEs xes) (max (depSs xbo) (depSs xel)))) := Lib.hid hdt
          have HXR : Hid (RowE w w.heap.size xA xn xes) := Lib.hid hxr0
          have HXI : Hid (EL.Ins w w.heap.size xes) := Lib.hid hxi0
          have hxl : xes.length = xn := hxr0.1
          have hxn9 : (xn : Int) ≤ 9223372036854775807 := hxr0.2.1
          have HXL := Lib.hid hxl
          obtain ⟨y, hy⟩ : ∃ y, y = min (q + 1) (depSs xbo) := ⟨_, rfl⟩
          obtain ⟨z, hz⟩ : ∃ z, z = min (q + 1) (depSs xel) := ⟨_, rfl⟩
          have hcb : ∀ W : World, Below wr.heap.size wr W → Calls Try.prog 74 #[.slice xA1 xn1 xc1, .int .i64 ((q + 1 : Nat) : Int)] W fun f w' => f = .returned (.int .i64 (y : Nat)) ∧ Below W.heap.size W w' := fun W hb => by
            have h1 := HBR.out.trans (hb.mono HBR.out.size)
            rw [hy]
            exact IH.out xbo xA1 xn1 xc1 W ((RowS6.below hxr1 h1).more h1.size) ((SL.Ins.below hxq1 h1).more h1.size)
          have hce : ∀ W : World, Below wr.heap.size wr W → Calls Try.prog 74 #[.slice xA2 xn2 xc2, .int .i64 ((q + 1 : Nat) : Int)] W fun f w' => f = .returned (.int .i64 (z : Nat)) ∧ Below W.heap.size W w' := fun W hb => by
            have h1 := HBR.out.trans (hb.mono HBR.out.size)
            rw [hz]
            exact IH.out xel xA2 xn2 xc2 W ((RowS6.below hxr2 h1).more h1.size) ((SL.Ins.below hxq2 h1).more h1.size)
          have HCB := Lib.hid hcb
          have HCE := Lib.hid hce
          have HY := Lib.hid hy
          have HZ := Lib.hid hz
          clear hdt hy hz hcb hce hxr0 hxi0 hxr1 hxr2 hxq1 hxq2 hxl
          obtain ⟨gs, hgs⟩ : ∃ gs, gs = wr.heap.size := ⟨_, rfl⟩
          go_wp2_with (refine wpList_store_row rfl 48 _ _ rfl wr.heap.size #[.int .i64 xk, .int .i64 xm, .string (bs xs), .slice xA xn xc', .slice xA1 xn1 xc1, .slice xA2 xn2 xc2] rfl rfl _ _ (Blk.new wr _ _) stmt_size rfl (stmt_one _ _ _ _ _ _ _ _ _ _ _ _) ?_; obtain ⟨V, hV⟩ : ∃ V, V = (wr.alloc (.cells #[.int .i64 0, .int .i64 0, .string ⟨#[]⟩, .slice none 0 0, .slice none 0 0, .slice none 0 0] 48)).setRow wr.heap.size #[.int .i64 xk, .int .i64 xm, .string (bs xs), .slice xA xn xc', .slice xA1 xn1 xc1, .slice xA2 xn2 xc2] := ⟨_, rfl⟩; rw [← hV]; obtain ⟨hkV, hbV⟩ := put_row hV; have HKV := Lib.hid hkV; have HBV := Lib.hid hbV; clear hV hkV hbV; have v3 : V.cell? ⟨wr.heap.size, 3, none⟩ = some (.slice xA xn xc') := HKV.out.cell 3)
          clear v3
          have HKG : Hid (Blk V gs 48 #[.int .i64 xk, .int .i64 xm, .string (bs xs), .slice xA xn xc', .slice xA1 xn1 xc1, .slice xA2 xn2 xc2]) := Lib.hid (by rw [hgs]; exact HKV.out)
          have HBG := HBV
          rw [← hgs]
          have HGS := Lib.hid hgs
          clear hgs HKV HBV a0 a1 a2 a3 a4 a5
          have HBV0 : Hid (Below w.heap.size w V) := Lib.hid (HBR.out.trans (HBG.out.mono HBR.out.size))
          obtain ⟨U, hU⟩ : ∃ U : World, U = wr := ⟨_, rfl⟩
          rw [← hU] at HBR HBG HCB HCE
          go_loopw [5, 24] (fun vn vi wr => ∃ i e : Nat, i ≤ xn ∧ vi = .int .i64 i ∧ vn = .int .i64 e ∧ Hid (e = max d (min (q + 1) (depEs (xes.take i)))) ∧ Hid (Below V.heap.size V wr)) (fun _ vi _ => xn - (intOf vi).toNat)
          case atStart => exact ⟨0, d, Nat.zero_le _, rfl, rfl, Lib.hid (by rw [List.take_zero]; unfold depEs; omega), Lib.hid (Below.refl _ _)⟩
          case round =>
            obtain ⟨i, e, hi, rfl, rfl, HE, HBI⟩ := hrel
            have HBI0 := Lib.hid (HBV0.out.trans (HBI.out.mono HBV0.out.size))
            by_cases hlt : i < xn
            · have hdt := depEs_take (l := xes) (j := i) (by rw [HXL.out]; exact hlt)
              have hyjl : i < xes.length := by rw [HXL.out]; exact hlt
              obtain ⟨yad, rfl, yab, yc⟩ := row_at (HXR.out.below HBI0.out) hlt
              have hy := HXI.out.at hyjl
              have hymem : (xes[i]?.getD nilE) ∈ xes := by rw [List.getElem?_eq_getElem hyjl]; exact List.getElem_mem _
              obtain ⟨y, hye⟩ : ∃ x, x = xes[i]?.getD nilE := ⟨_, rfl⟩
              obtain ⟨b0, b1, b2, b3, b4⟩ := yc y hye
              rw [← hye] at hy hymem
              have HXy := Lib.hid hy
              have HEy := Lib.hid hye
              have HMy := Lib.hid hymem
              rw [← hye] at hdt
              obtain ⟨yk, yo, ym, ys, yA, yn, yc', yes⟩ := y
              change wr.cell? (yad.add (i * 5)) = some (.int .i64 yk) at b0
              change wr.cell? ⟨(yad.add (i * 5)).block, (yad.add (i * 5)).off + 1, none⟩ = some (.int .i64 yo) at b1
              change wr.cell? ⟨(yad.add (i * 5)).block, (yad.add (i * 5)).off + 2, none⟩ = some (.int .i64 ym) at b2
              change wr.cell? ⟨(yad.add (i * 5)).block, (yad.add (i * 5)).off + 3, none⟩ = some (.string (bs ys)) at b3
              change wr.cell? ⟨(yad.add (i * 5)).block, (yad.add (i * 5)).off + 4, none⟩ = some (.slice yA yn yc') at b4
              clear yc hye hy hymem hyjl
              have HET : Hid (depEs (xes.take (i + 1)) = max (depEs (xes.take i)) (depE (.mk yk yo ym ys yA yn yc' yes))) := Lib.hid hdt
              obtain ⟨u, hu⟩ : ∃ u, u = min (q + 1) (depE (.mk yk yo ym ys yA yn yc' yes)) := ⟨_, rfl⟩
              have HU := Lib.hid hu
              have HC := Lib.hid (r10deep_any q HQ9.out (.mk yk yo ym ys yA yn yc' yes))
              clear hdt hu
              go_wp2_with (first | (refine wpList_store_row rfl 31 _ _ rfl wr.heap.size #[.int .i64 yk, .int .i64 yo, .int .i64 ym, .string (bs ys), .slice yA yn yc'] rfl rfl _ _ (Blk.new wr _ _) expr_size rfl (expr_one _ _ _ _ _ _ _) ?_; obtain ⟨V9, hV9⟩ : ∃ V, V = (wr.alloc (.cells #[.int .i64 0, .int .i64 0, .int .i64 0, .string ⟨#[]⟩, .slice none 0 0] 31)).setRow wr.heap.size #[.int .i64 yk, .int .i64 yo, .int .i64 ym, .string (bs ys), .slice yA yn yc'] := ⟨_, rfl⟩; rw [← hV9]; obtain ⟨hkV9, hbV9⟩ := put_row hV9; have HKV9 := Lib.hid hkV9; have HBV9 := Lib.hid hbV9; clear hV9 hkV9 hbV9) | (refine wpList_load_row rfl 31 _ rfl wr.heap.size rfl 31 #[.int .i64 yk, .int .i64 yo, .int .i64 ym, .string (bs ys), .slice yA yn yc'] (0, 0) _ HKV9.out Try.underlying31 rfl expr_size ?_))
              have HBV9' := Lib.hid (HBI0.out.trans (HBV9.out.mono HBI0.out.size))
              refine (HC.out V9 (EL.In.more HBV9'.out.size (HXy.out.below HBV9'.out))).mono ?_
              rintro f w2 ⟨rfl, hb2⟩
              rw [← HU.out]
              have HB2 := Lib.hid (HBI.out.trans ((HBV9.out.trans (hb2.mono HBV9.out.size)).mono HBI.out.size))
              clear hb2
              go_wp2_with fail
              refine (r10greater_any w2 e u).mono ?_
              rintro f w3 ⟨rfl, hb3⟩
              have HB3 := Lib.hid (HB2.out.trans (hb3.mono HB2.out.size))
              obtain ⟨e2, he2⟩ : ∃ e2, e2 = max e u := ⟨_, rfl⟩
              rw [← he2]
              have HN : Hid (e2 = max d (min (q + 1) (depEs (xes.take (i + 1))))) := Lib.hid (by rw [he2, HET.out]; have h1 := HU.out; have h2 := HE.out; omega)
              clear hb3 he2
              go_wp2_with fail
              go_roundw
              case rel => exact ⟨i + 1, e2, by omega, by go_num, rfl, HN, HB3⟩
              case measure => simp [intOf]; omega
            · obtain rfl : i = xn := by omega
              have HE2 : Hid (e = max d (min (q + 1) (depEs xes))) := Lib.hid (by rw [HE.out, List.take_of_length_le (by rw [HXL.out]; exact Nat.le_refl _)])
              have START : Hid (Below V.heap.size V wr.drew ∧ wr.drew.cell? ⟨gs, 4, none⟩ = some (.slice xA1 xn1 xc1) ∧ wr.drew.cell? ⟨gs, 5, none⟩ = some (.slice xA2 xn2 xc2)) := Lib.hid ⟨HBI.out.drew, held_cells HKG.out HBI.out 4, held_cells HKG.out HBI.out 5⟩
              have STEP : Hid (∀ u1 u2 : World, Below u1.heap.size u1 u2 → (Below V.heap.size V u1 ∧ u1.cell? ⟨gs, 4, none⟩ = some (.slice xA1 xn1 xc1) ∧ u1.cell? ⟨gs, 5, none⟩ = some (.slice xA2 xn2 xc2)) → (Below V.heap.size V u2 ∧ u2.cell? ⟨gs, 4, none⟩ = some (.slice xA1 xn1 xc1) ∧ u2.cell? ⟨gs, 5, none⟩ = some (.slice xA2 xn2 xc2))) := Lib.hid (fun u1 u2 hb hs => by
                have hb2 := hs.1.trans (hb.mono hs.1.size)
                exact ⟨hb2, held_cells HKG.out hb2 4, held_cells HKG.out hb2 5⟩)
              have PRE : Hid (∀ u : World, (Below V.heap.size V u ∧ u.cell? ⟨gs, 4, none⟩ = some (.slice xA1 xn1 xc1) ∧ u.cell? ⟨gs, 5, none⟩ = some (.slice xA2 xn2 xc2)) → Below U.heap.size U u) := Lib.hid (fun u hs => HBG.out.trans (hs.1.mono HBG.out.size))
              have k4 : wr.cell? ⟨gs, 4, none⟩ = some (.slice xA1 xn1 xc1) := held_cells HKG.out HBI.out 4
              have k5 : wr.cell? ⟨gs, 5, none⟩ = some (.slice xA2 xn2 xc2) := held_cells HKG.out HBI.out 5
              go_wp2_with fail
              go_region_held3 (fun u => (Below V.heap.size V u ∧ u.cell? ⟨gs, 4, none⟩ = some (.slice xA1 xn1 xc1) ∧ u.cell? ⟨gs, 5, none⟩ = some (.slice xA2 xn2 xc2))) (first | exact START.out | exact STEP.out _ _ (by assumption) (by assumption))
                (first
                  | (go_at_call_of 74 xA1; refine (HCB.out _ ?_).mono ?_; exact PRE.out _ (by assumption); rintro f wz ⟨rfl, hbb⟩)
                  | (go_at_call_of 74 xA2; refine (HCE.out _ ?_).mono ?_; exact PRE.out _ (by assumption); rintro f wz ⟨rfl, hbb⟩)
                  | (go_at_call 90; refine (r10greater_any _ _ _).mono ?_; rintro f wz ⟨rfl, hbb⟩))
              obtain ⟨e3, he3⟩ : ∃ e3, e3 = max e (max y z) := ⟨_, rfl⟩
              rw [← he3]
              have HN : Hid (e3 = min (q + 1) (depMs (ss.take (j + 1)))) := Lib.hid (by rw [he3, HDT.out]; have h1 := HD.out; have h2 := HE2.out; have h3 := HY.out; have h4 := HZ.out; omega)
              have HBF : Hid (Below w.heap.size w wz) := Lib.hid (HBR.out.trans ((PRE.out _ (by assumption)).mono HBR.out.size))
              clear he3
              go_wp2_with fail
              go_roundw
              case rel => exact ⟨j + 1, e3, by omega, by go_num, rfl, HN, HBF⟩
              case measure => simp [intOf]; omega
        · obtain rfl : j = n := by omega
          have HE : Hid (d = min (q + 1) (depMs ss)) := Lib.hid (by rw [HD.out, List.take_of_length_le (by rw [HL.out]; exact Nat.le_refl _)])
          have hd9 : (d : Int) ≤ 100001 := by have h1 := HE.out; have h2 := HQ.out; omega
          have HF : Hid ((d : Int) + 1 = ((min (q + 1) (depMs ss) + 1 : Nat) : Int)) := Lib.hid (by have h1 := HE.out; omega)
          have wd : IntKind.i64.wrap ((d : Int) + 1) = (d : Int) + 1 := by rw [IntKind.wrap_i64]; omega
          go_wp2_with fail
          go_ret
          rw [← HF.out]
          exact ⟨rfl, HBR.out⟩

set_option maxRecDepth 100000 in
set_option maxHeartbeats 1600000 in
theorem r10DepthBlock_any (ss : List SL) (A : Option Addr) (n c : Nat) (w : World) (hrow : RowS6 w w.heap.size A n ss) (hins : SL.Ins w w.heap.size ss) :
    Calls Try.prog 46 #[.slice A n c] w fun f w' => f = .returned (.int .i64 ((min 65 (depSs ss) : Nat) : Int)) ∧ Below w.heap.size w w' := by
  have HC := Lib.hid (r10deepBlock_any 64 (by decide) ss A n c w hrow hins)
  clear hrow hins
  go_enter Try.func46, Try.ntmps46
  go_wp2_with fail
  refine HC.out.mono ?_
  rintro f w2 ⟨rfl, hb2⟩
  go_wp2_with fail
  go_ret
  exact ⟨rfl, hb2⟩

end

section
open Go.RowKit

/-- what can be compared of an expression, of a statement -/
structure FV where
  kind : Int
  op : Int
  num : Int
  name : List UInt8
  args : Int
  body : Int
  els : Int
deriving DecidableEq
def FV.cells (a : FV) : Array Value := #[.int .i64 a.kind, .int .i64 a.op, .int .i64 a.num, .string (bs a.name), .int .i64 a.args, .int .i64 a.body, .int .i64 a.els]
def FV.val (a : FV) : Value := .agg a.cells
/-- a name, a number -/
def lbV (m : Int) (s : List UInt8) : Value := .agg #[.int .i64 m, .string (bs s)]

theorem fv_fields : (Try.prog.fieldsOf 52).toList.map (fun f => (f.name, f.type, f.offset)) = [("kind", 3, 0), ("op", 3, 1), ("label", 50, 2), ("args", 3, 4), ("body", 3, 5), ("otherwise", 3, 6)] := by kernel_rfl
theorem fv_under : Try.prog.underlying 52 = some (.struct (Try.prog.fieldsOf 52)) := by kernel_rfl
theorem fv_stood : Try.prog.stoodInHeld 52 = false := by kernel_rfl
theorem fv_guard : Try.prog.eqGuardType Try.prog.depth 52 = false := by kernel_rfl
theorem lb_fields : (Try.prog.fieldsOf 50).toList.map (fun f => (f.name, f.type, f.offset)) = [("num", 3, 0), ("name", 9, 1)] := by kernel_rfl
theorem lb_under : Try.prog.underlying 50 = some (.struct (Try.prog.fieldsOf 50)) := by kernel_rfl
theorem lb_stood : Try.prog.stoodInHeld 50 = false := by kernel_rfl
theorem lb_size : (Try.prog.info? 50).map (·.size) = some 2 := by kernel_rfl
theorem fv_size : (Try.prog.info? 52).map (·.size) = some 7 := by kernel_rfl
theorem fv_one (a : FV) : a.cells.all (·.oneCell') = true := by simp [FV.cells, Value.oneCell']

theorem partX_int {t : TypeId} {k : IntKind} {cs : Array Value} {o : Nat} {v : Value} (ht : Try.prog.underlying t = some (.int k)) (hc : cs[o]? = some v) (w : World) : (part t cs o).run Try.prog w = .ok v w := by
  unfold part
  have ha : (isAgg t).run Try.prog w = .ok false w := by
    unfold isAgg
    rw [Sem.run_bind, run_underlying ht w]
    rfl
  simp [Sem.run_bind, ha, hc]
theorem partX_str {t : TypeId} {cs : Array Value} {o : Nat} {v : Value} (ht : Try.prog.underlying t = some .string) (hc : cs[o]? = some v) (w : World) : (part t cs o).run Try.prog w = .ok v w := by
  unfold part
  have ha : (isAgg t).run Try.prog w = .ok false w := by
    unfold isAgg
    rw [Sem.run_bind, run_underlying ht w]
    rfl
  simp [Sem.run_bind, ha, hc]
theorem partX_lb {cs : Array Value} {o : Nat} (w : World) : (part 50 cs o).run Try.prog w = .ok (.agg (cs.extract o (o + 2))) w := by
  unfold part
  have ha : (isAgg 50).run Try.prog w = .ok true w := by
    unfold isAgg
    rw [Sem.run_bind, run_underlying lb_under w]
    rfl
  simp [Sem.run_bind, ha]

theorem eqX_step {d : Nat} {xs ys : Array Value} {f : Field} {fs : List Field} {a b : Value} {q : Bool} {w : World} (hn : f.name ≠ "_") (hx : (part f.type xs f.offset).run Try.prog w = .ok a w) (hy : (part f.type ys f.offset).run Try.prog w = .ok b w) (he : (Op.equalIn (d + 1) f.type a b).run Try.prog w = .ok q w) :
    (Op.eqFields (d + 1) xs ys (f :: fs)).run Try.prog w = if q = true then (Op.eqFields (d + 1) xs ys fs).run Try.prog w else .ok false w := by
  have e : Op.eqFields (d + 1) xs ys (f :: fs) = if f.name ≠ "_" then (do
      let a ← part f.type xs f.offset
      let b ← part f.type ys f.offset
      let r ← Op.equalIn (d + 1) f.type a b
      if (!r) = true then pure false else Op.eqFields (d + 1) xs ys fs) else Op.eqFields (d + 1) xs ys fs := rfl
  rw [e, if_pos hn]
  simp only [Sem.run_bind, hx, hy, he, Result.andThen_ok]
  cases q <;> simp [Sem.run_pure]
theorem eqX_int {d : Nat} {xs ys : Array Value} {f : Field} {fs : List Field} {k k2 : IntKind} {a b : Int} (hn : f.name ≠ "_") (ht : Try.prog.underlying f.type = some (.int k)) (hx : xs[f.offset]? = some (.int k2 a)) (hy : ys[f.offset]? = some (.int k2 b)) (w : World) :
    (Op.eqFields (d + 1) xs ys (f :: fs)).run Try.prog w = if (a == b) = true then (Op.eqFields (d + 1) xs ys fs).run Try.prog w else .ok false w :=
  eqX_step hn (partX_int ht hx w) (partX_int ht hy w) (by simp [Op.equalIn, run_underlying ht])
theorem eqX_str {d : Nat} {xs ys : Array Value} {f : Field} {fs : List Field} {a b : ByteArray} (hn : f.name ≠ "_") (ht : Try.prog.underlying f.type = some .string) (hx : xs[f.offset]? = some (.string a)) (hy : ys[f.offset]? = some (.string b)) (w : World) :
    (Op.eqFields (d + 1) xs ys (f :: fs)).run Try.prog w = if (a.toList == b.toList) = true then (Op.eqFields (d + 1) xs ys fs).run Try.prog w else .ok false w :=
  eqX_step hn (partX_str ht hx w) (partX_str ht hy w) (run_equalIn_string w d f.type a b ht)

theorem beqX {α : Type} [BEq α] [LawfulBEq α] [DecidableEq α] (a b : α) : (a == b) = decide (a = b) := by
  by_cases h : a = b
  · subst h; simp
  · simp [h]
theorem ifX {p q : Prop} [Decidable p] [Decidable q] {w : World} {b : Bool} (hb : b = decide p) {r : Result Bool} (hr : r = .ok (decide q) w) : (if b = true then r else .ok false w) = .ok (decide (p ∧ q)) w := by
  subst hb hr
  by_cases h : p
  · simp [h]
  · simp [h]

/-- a name and a number compared -/
theorem eq_lbs (d : Nat) (m m' : Int) (s s' : List UInt8) (w : World) : (Op.equalIn (d + 2) 50 (lbV m s) (lbV m' s')).run Try.prog w = .ok (decide (m = m' ∧ s = s')) w := by
  have key : ∀ fs : List Field, fs.map (fun f => (f.name, f.type, f.offset)) = [("num", 3, 0), ("name", 9, 1)] →
      (Op.eqFields (d + 1) #[.int .i64 m, .string (bs s)] #[.int .i64 m', .string (bs s')] fs).run Try.prog w = .ok (decide (m = m' ∧ s = s')) w := by
    intro fs h
    obtain ⟨f1, r1, rfl, e1, h⟩ := List.map_eq_cons_iff.1 h
    obtain ⟨f2, r2, rfl, e2, h⟩ := List.map_eq_cons_iff.1 h
    obtain rfl := List.map_eq_nil_iff.1 h
    simp only [Prod.mk.injEq] at e1 e2
    obtain ⟨n1, t1, o1⟩ := e1
    obtain ⟨n2, t2, o2⟩ := e2
    have hnil : (Op.eqFields (d + 1) #[.int .i64 m, .string (bs s)] #[.int .i64 m', .string (bs s')] []).run Try.prog w = .ok (decide True) w := by simp [Op.eqFields, Sem.run_pure]
    rw [eqX_int (a := m) (b := m') (by rw [n1]; decide) (by rw [t1]; exact Try.underlying3) (by rw [o1]; rfl) (by rw [o1]; rfl),
      eqX_str (a := bs s) (b := bs s') (by rw [n2]; decide) (by rw [t2]; exact Try.underlying9) (by rw [o2]; rfl) (by rw [o2]; rfl), bs_list9, bs_list9]
    refine (ifX (p := m = m') (beqX _ _) (ifX (p := s = s') (q := True) (beqX _ _) hnil)).trans ?_
    congr 1
    simp
  unfold lbV
  rw [run_equalIn_struct w (d + 1) _ _ _ lb_under lb_stood]
  exact key _ lb_fields

theorem eq_fvs (d : Nat) (a b : FV) (w : World) : ∀ fs : List Field, fs.map (fun f => (f.name, f.type, f.offset)) = [("kind", 3, 0), ("op", 3, 1), ("label", 50, 2), ("args", 3, 4), ("body", 3, 5), ("otherwise", 3, 6)] →
    (Op.eqFields (d + 2) a.cells b.cells fs).run Try.prog w = .ok (decide (a = b)) w := by
  intro fs h
  obtain ⟨f1, r1, rfl, e1, h⟩ := List.map_eq_cons_iff.1 h
  obtain ⟨f2, r2, rfl, e2, h⟩ := List.map_eq_cons_iff.1 h
  obtain ⟨f3, r3, rfl, e3, h⟩ := List.map_eq_cons_iff.1 h
  obtain ⟨f4, r4, rfl, e4, h⟩ := List.map_eq_cons_iff.1 h
  obtain ⟨f5, r5, rfl, e5, h⟩ := List.map_eq_cons_iff.1 h
  obtain ⟨f6, r6, rfl, e6, h⟩ := List.map_eq_cons_iff.1 h
  obtain rfl := List.map_eq_nil_iff.1 h
  simp only [Prod.mk.injEq] at e1 e2 e3 e4 e5 e6
  obtain ⟨n1, t1, o1⟩ := e1
  obtain ⟨n2, t2, o2⟩ := e2
  obtain ⟨n3, t3, o3⟩ := e3
  obtain ⟨n4, t4, o4⟩ := e4
  obtain ⟨n5, t5, o5⟩ := e5
  obtain ⟨n6, t6, o6⟩ := e6
  have hnil : (Op.eqFields (d + 2) a.cells b.cells []).run Try.prog w = .ok (decide True) w := by simp [Op.eqFields, Sem.run_pure]
  have hpa : ∀ x : FV, (part f3.type x.cells f3.offset).run Try.prog w = .ok (lbV x.num x.name) w := fun x => by
    rw [t3, o3, partX_lb]
    rfl
  rw [eqX_int (a := a.kind) (b := b.kind) (by rw [n1]; decide) (by rw [t1]; exact Try.underlying3) (by rw [o1]; rfl) (by rw [o1]; rfl),
    eqX_int (a := a.op) (b := b.op) (by rw [n2]; decide) (by rw [t2]; exact Try.underlying3) (by rw [o2]; rfl) (by rw [o2]; rfl),
    eqX_step (q := decide (a.num = b.num ∧ a.name = b.name)) (by rw [n3]; decide) (hpa a) (hpa b) (by rw [t3]; exact eq_lbs d _ _ _ _ w),
    eqX_int (a := a.args) (b := b.args) (by rw [n4]; decide) (by rw [t4]; exact Try.underlying3) (by rw [o4]; rfl) (by rw [o4]; rfl),
    eqX_int (a := a.body) (b := b.body) (by rw [n5]; decide) (by rw [t5]; exact Try.underlying3) (by rw [o5]; rfl) (by rw [o5]; rfl),
    eqX_int (a := a.els) (b := b.els) (by rw [n6]; decide) (by rw [t6]; exact Try.underlying3) (by rw [o6]; rfl) (by rw [o6]; rfl)]
  refine (ifX (p := a.kind = b.kind) (beqX _ _) (ifX (p := a.op = b.op) (beqX _ _) (ifX (p := a.num = b.num ∧ a.name = b.name) rfl (ifX (p := a.args = b.args) (beqX _ _) (ifX (p := a.body = b.body) (beqX _ _) (ifX (p := a.els = b.els) (q := True) (beqX _ _) hnil)))))).trans ?_
  congr 1
  obtain ⟨a1, a2, a3, a4, a5, a6, a7⟩ := a
  obtain ⟨b1, b2, b3, b4, b5, b6, b7⟩ := b
  simp only [FV.mk.injEq, and_true, and_assoc]

theorem run_eql_fv (a b : FV) (w : World) : (binOp .eql 52 a.val b.val).run Try.prog w = .ok (.bool (decide (a = b))) w := by
  unfold FV.val
  rw [run_eql_struct, run_equalIn_struct w 9999 _ _ _ fv_under fv_stood, eq_fvs 9997 a b w _ fv_fields]
  rfl
theorem run_neq_fv (a b : FV) (w : World) : (binOp .neq 52 a.val b.val).run Try.prog w = .ok (.bool (!decide (a = b))) w := by
  unfold FV.val
  rw [run_neq_struct, run_equalIn_struct w 9999 _ _ _ fv_under fv_stood, eq_fvs 9997 a b w _ fv_fields]
  rfl
theorem guard_fv (op : BinOp) (x y : Operand) (a b : FV) (w : World) : (eqGuard op 52 x y a.val b.val).run Try.prog w = .ok () w := run_eqGuard_agg w op _ x y _ _ fv_guard

/-- the fields of an expression, of a statement -/
def EL.fv (e : EL) : FV := ⟨e.kind, e.op, e.num, e.name, e.n, 0, 0⟩
def SL.fv (s : SL) : FV := ⟨s.kind, 0, s.num, s.name, s.n, s.n1, s.n2⟩

set_option maxRecDepth 100000 in
set_option maxHeartbeats 6400000 in
theorem texprFields_any (e : EL) (w : World) : Calls Try.prog 24 #[eVal e] w fun f w' => f = .returned e.fv.val ∧ Below w.heap.size w w' := by
  obtain ⟨k, o, m, s, A, n, c, es⟩ := e
  show Calls Try.prog _ #[.agg #[.int .i64 k, .int .i64 o, .int .i64 m, .string (bs s), .slice A n c]] w fun f w' => f = .returned (.agg #[.int .i64 k, .int .i64 o, .int .i64 m, .string (bs s), .int .i64 n, .int .i64 0, .int .i64 0]) ∧ Below w.heap.size w w'
  have HK := Lib.hid (Blk.new_at (w.alloc (.cells #[.int .i64 k, .int .i64 o, .int .i64 m, .string (bs s), .slice A n c] 31)) 52 #[.int .i64 0, .int .i64 0, .int .i64 0, .string ⟨#[]⟩, .int .i64 0, .int .i64 0, .int .i64 0] (w.heap.size + 1) (by simp))
  go_enter Try.func24, Try.ntmps24
  go_wp2_with (refine wpList_store_row rfl 52 _ _ rfl (w.heap.size + 1) #[.int .i64 k, .int .i64 o, .int .i64 m, .string (bs s), .int .i64 n, .int .i64 0, .int .i64 0] rfl rfl _ _ HK.out fv_size rfl (by simp [Value.oneCell']) ?_)
  (try simp only [Exit.inBlock, Exit.then]); refine bodyPost_ret (results_cell_row rfl _ _ _ _ _ _ _ rfl (setRow_heap _ _ _ _ _ _ HK.out) Try.underlying52 rfl (by kernel_rfl)) rfl ?_
  exact ⟨rfl, below_setRow (((Below.refl _ _).alloc (Nat.le_refl _) _).alloc (by simp) _) (by omega) _⟩

set_option maxRecDepth 100000 in
set_option maxHeartbeats 6400000 in
theorem tstmtFields_any (s : SL) (w : World) : Calls Try.prog 59 #[sVal s] w fun f w' => f = .returned s.fv.val ∧ Below w.heap.size w w' := by
  obtain ⟨k, m, s, A, n, c, es, A1, n1, c1, bo, A2, n2, c2, el⟩ := s
  show Calls Try.prog _ #[.agg #[.int .i64 k, .int .i64 m, .string (bs s), .slice A n c, .slice A1 n1 c1, .slice A2 n2 c2]] w fun f w' => f = .returned (.agg #[.int .i64 k, .int .i64 0, .int .i64 m, .string (bs s), .int .i64 n, .int .i64 n1, .int .i64 n2]) ∧ Below w.heap.size w w'
  have HK := Lib.hid (Blk.new_at (w.alloc (.cells #[.int .i64 k, .int .i64 m, .string (bs s), .slice A n c, .slice A1 n1 c1, .slice A2 n2 c2] 48)) 52 #[.int .i64 0, .int .i64 0, .int .i64 0, .string ⟨#[]⟩, .int .i64 0, .int .i64 0, .int .i64 0] (w.heap.size + 1) (by simp))
  go_enter Try.func59, Try.ntmps59
  go_wp2_with (refine wpList_store_row rfl 52 _ _ rfl (w.heap.size + 1) #[.int .i64 k, .int .i64 0, .int .i64 m, .string (bs s), .int .i64 n, .int .i64 n1, .int .i64 n2] rfl rfl _ _ HK.out fv_size rfl (by simp [Value.oneCell']) ?_)
  (try simp only [Exit.inBlock, Exit.then]); refine bodyPost_ret (results_cell_row rfl _ _ _ _ _ _ _ rfl (setRow_heap _ _ _ _ _ _ HK.out) Try.underlying52 rfl (by kernel_rfl)) rfl ?_
  exact ⟨rfl, below_setRow (((Below.refl _ _).alloc (Nat.le_refl _) _).alloc (by simp) _) (by omega) _⟩

end

section
open Go.RowKit

section
variable {P : Program} {ops : Array Oper} {Q : Exit → Act → World → Prop} {md : Region.Mode} {S S' : World → Prop}

theorem held_mono (hi : ∀ w, S' w → S w) : ∀ (fuel : Nat) (listed : Array Bool) (a : Act) (w : World), wpAnyH P md ops Q S' fuel listed a w → wpAnyH P md ops Q S fuel listed a w
  | 0, _, _, _, h => h
  | fuel + 1, _, _, _, h => ⟨h.1, fun i hh => wpOp_mono (fun a' w' h' => ⟨hi w' h'.1, held_mono hi fuel _ a' w' h'.2⟩) (h.2 i hh)⟩

/-- from here on a stronger condition -/
theorem held_more {fuel : Nat} {listed : Array Bool} {a : Act} {w : World} (S' : World → Prop) (hi : ∀ w, S' w → S w) (hS : S' w) (h : S' w → wpAnyH P md ops Q S' fuel listed a w) : wpAnyH P md ops Q S fuel listed a w :=
  held_mono hi fuel listed a w (h hS)

/-- one operation that yields in every world that meets the condition -/
theorem held_take {i : Nat} {oi : Oper} {v : Value} {fuel : Nat} {listed : Array Bool} {a : Act} {w : World} (hi : ops[i]? = some oi)
    (hs : Region.noSelect ops = true) (hf : Region.free md ops listed i = true) (hr : (Region.ready md ops listed).contains i = true) (hS : S w)
    (hy : ∀ w, S w → (execOp a.eval oi).run P w = .ok (.value v) w) (hw : Region.wanted oi (yielded ops a.tmps) = true) (hQ : ∀ c a w, Q (.panic c) (a.put oi.dst v) w → Q (.panic c) a w)
    (h : wpAnyH P md ops Q S fuel (listed.setIfInBounds i true) (a.put oi.dst v) w) : wpAnyH P md ops Q S (fuel + 1) listed a w :=
  wpAnyH_take hi hs hf hr hQ (.inl ⟨hw, hy⟩) hS h

/-- one operation whose guard says no -/
theorem held_skip {i : Nat} {oi : Oper} {fuel : Nat} {listed : Array Bool} {a : Act} {w : World} (hi : ops[i]? = some oi)
    (hs : Region.noSelect ops = true) (hf : Region.free md ops listed i = true) (hr : (Region.ready md ops listed).contains i = true) (hS : S w)
    (hw : Region.wanted oi (yielded ops a.tmps) = false) (hQ : ∀ c a w, Q (.panic c) (a.put oi.dst undef) w → Q (.panic c) a w)
    (h : wpAnyH P md ops Q S fuel (listed.setIfInBounds i true) (a.put oi.dst undef) w) : wpAnyH P md ops Q S (fuel + 1) listed a w :=
  wpAnyH_take hi hs hf hr hQ (.inr ⟨hw, rfl⟩) hS h

/-- the one operation that may come up -/
theorem held_one {i : Nat} {o : Oper} {fuel : Nat} {listed : Array Bool} {a : Act} {w : World} (hr : Region.ready md ops listed = [i]) (ho : ops[i]? = some o)
    (h : ∀ K' : Act → World → Prop, Shut (∀ a w, S w → (S w → wpAnyH P md ops Q S fuel (listed.setIfInBounds i true) a w) → K' a w) → if Region.wanted o (yielded ops a.tmps) = true then Oper.wp P o a w K' Q else K' (a.put o.dst undef) w) : wpAnyH P md ops Q S (fuel + 1) listed a w :=
  wpAnyH_ready hr (by simp) (AllReadyH.cons ho h AllReadyH.nil)
end

/-- a condition on the worlds of a region: what was there at the walk's start, and at X, is there -/
def Held2 (w X u : World) : Prop := Below w.heap.size w u ∧ Below X.heap.size X u

theorem Held2.start {w X : World} (h : Below w.heap.size w X) : Held2 w X X.drew := ⟨h.drew, (Below.refl _ _).drew⟩

theorem Held2.alloc {w X u : World} (h : Held2 w X u) (o : Obj) : Held2 w X (u.alloc o) := ⟨Below.alloc h.1 h.1.size o, Below.alloc h.2 h.2.size o⟩

theorem Held2.call {w X u u' : World} (h : Held2 w X u) (hb : Below u.heap.size u u') : Held2 w X u' := ⟨h.1.trans (hb.mono h.1.size), h.2.trans (hb.mono h.2.size)⟩

theorem Held2.imp {w X u v : World} (h : Held2 w X u) (h' : Held2 w u v) : Held2 w X v := ⟨h'.1, h.2.trans (h'.2.mono h.2.size)⟩

theorem Held2.new {w X u : World} (h : Held2 w X u) : Held2 w u u := ⟨h.1, Below.refl _ _⟩

end

section
open Go.RowKit

set_option maxRecDepth 100000 in
theorem r1Is_any (w : World) (n : Int) : Calls Try.prog 71 #[.int .i64 n] w fun f w' => f = .returned (.bool (amongB n (-32768) 32767)) ∧ w = w' := by
  by_cases a : -32768 ≤ n
  · by_cases b : n ≤ 32767
    · go_enter Try.func71, Try.ntmps71
      go_wp2_with fail
      go_ret
      exact ⟨by unfold amongB; simp [a, b], rfl⟩
    · have b1 : decide (n ≤ 32767) = false := by simpa using b
      go_enter Try.func71, Try.ntmps71
      go_wp2_with fail
      go_ret
      exact ⟨by unfold amongB; simp [b], rfl⟩
  · have a1 : decide (-32768 ≤ n) = false := by simpa using a
    go_enter Try.func71, Try.ntmps71
    go_wp2_with fail
    go_ret
    exact ⟨by unfold amongB; rw [a1, Bool.false_and]; rfl, rfl⟩

set_option maxRecDepth 100000 in
set_option maxHeartbeats 6400000 in
theorem r10bound_any (T : TV) (loc : Int) : ∀ (e : EL) (said : Bool) (w : World), T.In w w.heap.size → e.In w w.heap.size →
    Calls Try.prog 45 #[T.val, eVal e, .int .i64 loc, .bool said] w fun f w' => f = .returned (.bool (boundE T.tb loc said e)) ∧ Below w.heap.size w w' := by
  refine EL.ind fun e ih said w hT hin => ?_
  have hrow := hin.row
  have hargs := hin.args
  have hcb : ∀ (b : Nat) (op num named : Bool) (W : World), Below w.heap.size w W → Calls Try.prog 70 #[eVal e, .int .i64 b, .bool op, .bool num, .bool named] W fun f w' => f = .returned (.bool (bareE e b op num named)) ∧ Below W.heap.size W w' := fun b op num named W hb =>
    r10bare_any e b op num named W ((RowE.below hrow hb).more hb.size)
  have hpr : ∀ W : World, Below w.heap.size w W → Calls Try.prog 73 #[T.val, .int .i64 e.num] W fun r w' => r = .returned (.int .i64 (paramsT T.tb e.num)) ∧ Below W.heap.size W w' := fun W hb => r10params_any T e.num W ((hT.below hb).more hb.size)
  have hTW : ∀ W : World, Below w.heap.size w W → T.In W W.heap.size := fun W hb => (hT.below hb).more hb.size
  rw [boundE_eq, boundEs_all]
  have ih1 : ∀ x ∈ e.args, ∀ (W : World), Below w.heap.size w W → x.In W W.heap.size → Calls Try.prog 45 #[T.val, eVal x, .int .i64 loc, .bool false] W fun f w' => f = .returned (.bool (boundE T.tb loc false x)) ∧ Below W.heap.size W w' := fun x hx W hb hxi => ih x hx false W (hTW W hb) hxi
  obtain ⟨⟨hm1, hm2, hm3, hm7, hm8, hm9⟩, hTf, hTp⟩ := hT
  obtain ⟨t1, t2, t3, t4, S1, m1, k1, fl, S2, m2, k2, S3, m3, k3, S4, m4, k4, S5, m5, k5, S6, m6, k6, S7, m7, k7, S8, m8, k8, S9, m9, k9, S10, m10, k10, fs, ps⟩ := T
  obtain ⟨k, o, m, s, A, n, c, es⟩ := e
  have hn : es.length = n := hrow.1
  have hn9 : (n : Int) ≤ 9223372036854775807 := hrow.2.1
  change (m1 : Int) ≤ 9223372036854775807 at hm1
  change (m2 : Int) ≤ 9223372036854775807 at hm2
  change (m3 : Int) ≤ 9223372036854775807 at hm3
  have hcb' : ∀ (b : Nat) (op num named : Bool) (W : World), Below w.heap.size w W → Calls Try.prog 70 #[.agg #[.int .i64 k, .int .i64 o, .int .i64 m, .string (bs s), .slice A n c], .int .i64 b, .bool op, .bool num, .bool named] W fun f w' => f = .returned (.bool (bareE (.mk k o m s A n c es) b op num named)) ∧ Below W.heap.size W w' := hcb
  have hpr' : ∀ W : World, Below w.heap.size w W → Calls Try.prog 73 #[.agg #[.int .i64 t1, .int .i64 t2, .int .i64 t3, .int .i64 t4, .slice S1 m1 k1, .int .i64 fl, .slice S2 m2 k2, .slice S3 m3 k3, .slice S4 m4 k4, .slice S5 m5 k5, .slice S6 m6 k6, .slice S7 m7 k7, .slice S8 m8 k8, .slice S9 m9 k9, .slice S10 m10 k10], .int .i64 m] W fun r w' => r = .returned (.int .i64 (paramsT (TB.mk m1 fl m2 m3 m8 fs ps) m)) ∧ Below W.heap.size W w' := hpr
  have ih' : ∀ x ∈ es, ∀ (W : World), Below w.heap.size w W → x.In W W.heap.size → Calls Try.prog 45 #[.agg #[.int .i64 t1, .int .i64 t2, .int .i64 t3, .int .i64 t4, .slice S1 m1 k1, .int .i64 fl, .slice S2 m2 k2, .slice S3 m3 k3, .slice S4 m4 k4, .slice S5 m5 k5, .slice S6 m6 k6, .slice S7 m7 k7, .slice S8 m8 k8, .slice S9 m9 k9, .slice S10 m10 k10], eVal x, .int .i64 loc, .bool false] W fun f w' => f = .returned (.bool (boundE (TB.mk m1 fl m2 m3 m8 fs ps) loc false x)) ∧ Below W.heap.size W w' := ih1
  have HCB := Lib.hid hcb'
  have HPR := Lib.hid hpr'
  have HR : Hid (RowE w w.heap.size A n es) := Lib.hid hrow
  have HA : Hid (EL.Ins w w.heap.size es) := Lib.hid hargs
  have HL := Lib.hid hn
  have IH := Lib.hid ih'
  obtain ⟨W, hW⟩ : ∃ W, W = ((w.alloc (.cells #[.int .i64 t1, .int .i64 t2, .int .i64 t3, .int .i64 t4, .slice S1 m1 k1, .int .i64 fl, .slice S2 m2 k2, .slice S3 m3 k3, .slice S4 m4 k4, .slice S5 m5 k5, .slice S6 m6 k6, .slice S7 m7 k7, .slice S8 m8 k8, .slice S9 m9 k9, .slice S10 m10 k10] 28)).alloc (.cells #[.int .i64 k, .int .i64 o, .int .i64 m, .string (bs s), .slice A n c] 31)) := ⟨_, rfl⟩
  have HBW : Hid (Below w.heap.size w W) := Lib.hid (by rw [hW]; exact ((Below.refl _ _).alloc (Nat.le_refl _) _).alloc (by simp) _)
  have HKT : Hid (Blk W w.heap.size 28 #[.int .i64 t1, .int .i64 t2, .int .i64 t3, .int .i64 t4, .slice S1 m1 k1, .int .i64 fl, .slice S2 m2 k2, .slice S3 m3 k3, .slice S4 m4 k4, .slice S5 m5 k5, .slice S6 m6 k6, .slice S7 m7 k7, .slice S8 m8 k8, .slice S9 m9 k9, .slice S10 m10 k10]) := Lib.hid (by rw [hW]; exact (Blk.new _ _ _).alloc _)
  have HK : Hid (Blk W (w.heap.size + 1) 31 #[.int .i64 k, .int .i64 o, .int .i64 m, .string (bs s), .slice A n c]) := Lib.hid (by rw [hW]; exact Blk.new_at _ _ _ _ (by simp))
  show Calls Try.prog _ #[.agg #[.int .i64 t1, .int .i64 t2, .int .i64 t3, .int .i64 t4, .slice S1 m1 k1, .int .i64 fl, .slice S2 m2 k2, .slice S3 m3 k3, .slice S4 m4 k4, .slice S5 m5 k5, .slice S6 m6 k6, .slice S7 m7 k7, .slice S8 m8 k8, .slice S9 m9 k9, .slice S10 m10 k10], .agg #[.int .i64 k, .int .i64 o, .int .i64 m, .string (bs s), .slice A n c], .int .i64 loc, .bool said] w fun f w' => f = .returned (.bool (okB (TB.mk m1 fl m2 m3 m8 fs ps) loc said (.mk k o m s A n c es) && es.all (boundE (TB.mk m1 fl m2 m3 m8 fs ps) loc false))) ∧ Below w.heap.size w w'
  clear ih ih1 ih' hrow hargs hin hn hcb hcb' hpr hpr' hTW hTf hTp hm7 hm8 hm9
  go_enter Try.func45, Try.ntmps45
  go_upto_block 0 with fail
  rw [← hW]
  have kk0 : W.cell? ⟨w.heap.size + 1, 0, none⟩ = some (.int .i64 k) := HK.out.cell 0
  have kk1 : W.cell? ⟨w.heap.size + 1, 1, none⟩ = some (.int .i64 o) := HK.out.cell 1
  have kk2 : W.cell? ⟨w.heap.size + 1, 2, none⟩ = some (.int .i64 m) := HK.out.cell 2
  have kk3 : W.cell? ⟨w.heap.size + 1, 3, none⟩ = some (.string (bs s)) := HK.out.cell 3
  have kk4 : W.cell? ⟨w.heap.size + 1, 4, none⟩ = some (.slice A n c) := HK.out.cell 4
  clear hW
  go_cut [9] from 12 to 152 (fun v wx => v = .bool (okB (TB.mk m1 fl m2 m3 m8 fs ps) loc said (.mk k o m s A n c es)) ∧ Below W.heap.size W wx)
  case first =>
    clear IH HR HA
    have HB0 : Hid (Below W.heap.size W W) := Lib.hid (Below.refl _ _)
    by_cases h1 : k = 1
    · subst h1
      obtain ⟨q0, hq0⟩ : ∃ q, q = bareE (.mk 1 o m s A n c es) 0 false true false := ⟨_, rfl⟩
      obtain ⟨q1, hq1⟩ : ∃ q, q = amongB m (-32768) 32767 := ⟨_, rfl⟩
      have e1 : okB (TB.mk m1 fl m2 m3 m8 fs ps) loc said (.mk 1 o m s A n c es) = (q0 && q1) := by
        rw [hq0, hq1]
        exact (if_pos (by show (1 : Int) = 1; decide)).trans rfl
      have Hq0 := Lib.hid hq0
      have Hq1 := Lib.hid hq1
      have HE1 := Lib.hid e1
      clear e1 hq0 hq1
      go_wp2_with (refine wpList_load_row rfl 31 _ rfl (w.heap.size + 1) rfl 31 #[.int .i64 1, .int .i64 o, .int .i64 m, .string (bs s), .slice A n c] (0, 0) _ HK.out Try.underlying31 rfl expr_size ?_)
      refine (HCB.out 0 false true false W HBW.out).mono ?_
      rintro f w2 ⟨rfl, hb2⟩
      rw [← Hq0.out]
      have HB2 := Lib.hid hb2
      have kk1 : w2.cell? ⟨w.heap.size + 1, 1, none⟩ = some (.int .i64 o) := (HK.out.below hb2 HK.out.lt).cell 1
      have kk2 : w2.cell? ⟨w.heap.size + 1, 2, none⟩ = some (.int .i64 m) := (HK.out.below hb2 HK.out.lt).cell 2
      have kk3 : w2.cell? ⟨w.heap.size + 1, 3, none⟩ = some (.string (bs s)) := (HK.out.below hb2 HK.out.lt).cell 3
      have kk4 : w2.cell? ⟨w.heap.size + 1, 4, none⟩ = some (.slice A n c) := (HK.out.below hb2 HK.out.lt).cell 4
      have u4 : w2.cell? ⟨w.heap.size, 4, none⟩ = some (.slice S1 m1 k1) := (HKT.out.below hb2 HKT.out.lt).cell 4
      have u5 : w2.cell? ⟨w.heap.size, 5, none⟩ = some (.int .i64 fl) := (HKT.out.below hb2 HKT.out.lt).cell 5
      have u6 : w2.cell? ⟨w.heap.size, 6, none⟩ = some (.slice S2 m2 k2) := (HKT.out.below hb2 HKT.out.lt).cell 6
      have u7 : w2.cell? ⟨w.heap.size, 7, none⟩ = some (.slice S3 m3 k3) := (HKT.out.below hb2 HKT.out.lt).cell 7
      clear hb2
      cases q0 with
      | false =>
        go_wp2_with fail
        go_meet
        case rel => exact ⟨by rw [HE1.out] <;> rfl, HB2.out⟩
      | true =>
        go_wp2_with fail
        refine (r1Is_any w2 m).mono ?_
        rintro f w3 ⟨rfl, rfl⟩
        rw [← Hq1.out]
        go_wp2_with fail
        go_meet
        case rel => exact ⟨by rw [HE1.out] <;> rfl, HB2.out⟩
    by_cases h14 : k = 14
    · subst h14
      obtain ⟨q0, hq0⟩ : ∃ q, q = bareE (.mk 14 o m s A n c es) 0 false true false := ⟨_, rfl⟩
      obtain ⟨q1, hq1⟩ : ∃ q, q = amongB m 0 ((m3 : Int) - 1) := ⟨_, rfl⟩
      have e1 : okB (TB.mk m1 fl m2 m3 m8 fs ps) loc said (.mk 14 o m s A n c es) = (q0 && q1) := by
        rw [hq0, hq1]
        exact (if_neg (by show ¬ ((14 : Int) = 1); decide)).trans ((if_pos (by show (14 : Int) = 14; decide)).trans rfl)
      have Hq0 := Lib.hid hq0
      have Hq1 := Lib.hid hq1
      have HE1 := Lib.hid e1
      clear e1 hq0 hq1
      go_wp2_with (refine wpList_load_row rfl 31 _ rfl (w.heap.size + 1) rfl 31 #[.int .i64 14, .int .i64 o, .int .i64 m, .string (bs s), .slice A n c] (0, 0) _ HK.out Try.underlying31 rfl expr_size ?_)
      refine (HCB.out 0 false true false W HBW.out).mono ?_
      rintro f w2 ⟨rfl, hb2⟩
      rw [← Hq0.out]
      have HB2 := Lib.hid hb2
      have kk1 : w2.cell? ⟨w.heap.size + 1, 1, none⟩ = some (.int .i64 o) := (HK.out.below hb2 HK.out.lt).cell 1
      have kk2 : w2.cell? ⟨w.heap.size + 1, 2, none⟩ = some (.int .i64 m) := (HK.out.below hb2 HK.out.lt).cell 2
      have kk3 : w2.cell? ⟨w.heap.size + 1, 3, none⟩ = some (.string (bs s)) := (HK.out.below hb2 HK.out.lt).cell 3
      have kk4 : w2.cell? ⟨w.heap.size + 1, 4, none⟩ = some (.slice A n c) := (HK.out.below hb2 HK.out.lt).cell 4
      have u4 : w2.cell? ⟨w.heap.size, 4, none⟩ = some (.slice S1 m1 k1) := (HKT.out.below hb2 HKT.out.lt).cell 4
      have u5 : w2.cell? ⟨w.heap.size, 5, none⟩ = some (.int .i64 fl) := (HKT.out.below hb2 HKT.out.lt).cell 5
      have u6 : w2.cell? ⟨w.heap.size, 6, none⟩ = some (.slice S2 m2 k2) := (HKT.out.below hb2 HKT.out.lt).cell 6
      have u7 : w2.cell? ⟨w.heap.size, 7, none⟩ = some (.slice S3 m3 k3) := (HKT.out.below hb2 HKT.out.lt).cell 7
      clear hb2
      cases q0 with
      | false =>
        go_wp2_with fail
        go_meet
        case rel => exact ⟨by rw [HE1.out] <;> rfl, HB2.out⟩
      | true =>
        go_wp2_with fail
        refine (r10among_any w2 m 0 ((m3 : Int) - 1)).mono ?_
        rintro f w3 ⟨rfl, rfl⟩
        rw [← Hq1.out]
        go_wp2_with fail
        go_meet
        case rel => exact ⟨by rw [HE1.out] <;> rfl, HB2.out⟩
    by_cases h15 : k = 15
    · subst h15
      obtain ⟨q0, hq0⟩ : ∃ q, q = bareE (.mk 15 o m s A n c es) 0 false true false := ⟨_, rfl⟩
      obtain ⟨q1, hq1⟩ : ∃ q, q = decide (0 ≤ m) := ⟨_, rfl⟩
      obtain ⟨q2, hq2⟩ : ∃ q, q = decide (m < loc) := ⟨_, rfl⟩
      have e1 : okB (TB.mk m1 fl m2 m3 m8 fs ps) loc said (.mk 15 o m s A n c es) = (q0 && q1 && q2) := by
        rw [hq0, hq1, hq2]
        exact (if_neg (by show ¬ ((15 : Int) = 1); decide)).trans ((if_neg (by show ¬ ((15 : Int) = 14); decide)).trans ((if_pos (by show (15 : Int) = 15; decide)).trans rfl))
      have Hq0 := Lib.hid hq0
      have Hq1 := Lib.hid hq1
      have Hq2 := Lib.hid hq2
      have HE1 := Lib.hid e1
      clear e1 hq0 hq1 hq2
      go_wp2_with (refine wpList_load_row rfl 31 _ rfl (w.heap.size + 1) rfl 31 #[.int .i64 15, .int .i64 o, .int .i64 m, .string (bs s), .slice A n c] (0, 0) _ HK.out Try.underlying31 rfl expr_size ?_)
      refine (HCB.out 0 false true false W HBW.out).mono ?_
      rintro f w2 ⟨rfl, hb2⟩
      rw [← Hq0.out]
      have HB2 := Lib.hid hb2
      have kk1 : w2.cell? ⟨w.heap.size + 1, 1, none⟩ = some (.int .i64 o) := (HK.out.below hb2 HK.out.lt).cell 1
      have kk2 : w2.cell? ⟨w.heap.size + 1, 2, none⟩ = some (.int .i64 m) := (HK.out.below hb2 HK.out.lt).cell 2
      have kk3 : w2.cell? ⟨w.heap.size + 1, 3, none⟩ = some (.string (bs s)) := (HK.out.below hb2 HK.out.lt).cell 3
      have kk4 : w2.cell? ⟨w.heap.size + 1, 4, none⟩ = some (.slice A n c) := (HK.out.below hb2 HK.out.lt).cell 4
      have u4 : w2.cell? ⟨w.heap.size, 4, none⟩ = some (.slice S1 m1 k1) := (HKT.out.below hb2 HKT.out.lt).cell 4
      have u5 : w2.cell? ⟨w.heap.size, 5, none⟩ = some (.int .i64 fl) := (HKT.out.below hb2 HKT.out.lt).cell 5
      have u6 : w2.cell? ⟨w.heap.size, 6, none⟩ = some (.slice S2 m2 k2) := (HKT.out.below hb2 HKT.out.lt).cell 6
      have u7 : w2.cell? ⟨w.heap.size, 7, none⟩ = some (.slice S3 m3 k3) := (HKT.out.below hb2 HKT.out.lt).cell 7
      clear hb2
      cases q0 with
      | false =>
        go_wp2_with fail
        go_meet
        case rel => exact ⟨by rw [HE1.out] <;> rfl, HB2.out⟩
      | true =>
        by_cases g1 : 0 ≤ m
        · have hq1 : q1 = true := by rw [Hq1.out]; exact decide_eq_true g1
          by_cases g2 : m < loc
          · have hq2 : q2 = true := by rw [Hq2.out]; exact decide_eq_true g2
            go_wp2_with fail
            go_meet
            case rel => exact ⟨by rw [HE1.out, hq1, hq2] <;> rfl, HB2.out⟩
          · have hq2 : q2 = false := by rw [Hq2.out]; exact decide_eq_false g2
            have f2 : decide (m < loc) = false := by rw [decide_eq_false_iff_not]; exact g2
            clear g2
            go_wp2_with fail
            go_meet
            case rel => exact ⟨by rw [HE1.out, hq1, hq2] <;> rfl, HB2.out⟩
        · have hq1 : q1 = false := by rw [Hq1.out]; exact decide_eq_false g1
          have f1 : decide (0 ≤ m) = false := by rw [decide_eq_false_iff_not]; exact g1
          clear g1
          go_wp2_with fail
          go_meet
          case rel => exact ⟨by rw [HE1.out, hq1] <;> rfl, HB2.out⟩
    by_cases h19 : k = 19
    · subst h19
      obtain ⟨q1, hq1⟩ : ∃ q, q = bareE (.mk 19 o m s A n c es) 0 false true false := ⟨_, rfl⟩
      obtain ⟨q2, hq2⟩ : ∃ q, q = amongB m 0 ((m1 : Int) - 1) := ⟨_, rfl⟩
      have e1 : okB (TB.mk m1 fl m2 m3 m8 fs ps) loc said (.mk 19 o m s A n c es) = (said && q1 && q2) := by
        rw [hq1, hq2]
        exact (if_neg (by show ¬ ((19 : Int) = 1); decide)).trans ((if_neg (by show ¬ ((19 : Int) = 14); decide)).trans ((if_neg (by show ¬ ((19 : Int) = 15); decide)).trans ((if_pos (by show (19 : Int) = 19; decide)).trans rfl)))
      have Hq1 := Lib.hid hq1
      have Hq2 := Lib.hid hq2
      have HE1 := Lib.hid e1
      clear e1 hq1 hq2
      cases said with
      | false =>
        go_wp2_with fail
        go_meet
        case rel => exact ⟨by rw [HE1.out] <;> rfl, HB0.out⟩
      | true =>
        go_wp2_with (refine wpList_load_row rfl 31 _ rfl (w.heap.size + 1) rfl 31 #[.int .i64 19, .int .i64 o, .int .i64 m, .string (bs s), .slice A n c] (0, 0) _ HK.out Try.underlying31 rfl expr_size ?_)
        refine (HCB.out 0 false true false W HBW.out).mono ?_
        rintro f w2 ⟨rfl, hb2⟩
        rw [← Hq1.out]
        have HB2 := Lib.hid hb2
        have kk1 : w2.cell? ⟨w.heap.size + 1, 1, none⟩ = some (.int .i64 o) := (HK.out.below hb2 HK.out.lt).cell 1
        have kk2 : w2.cell? ⟨w.heap.size + 1, 2, none⟩ = some (.int .i64 m) := (HK.out.below hb2 HK.out.lt).cell 2
        have kk3 : w2.cell? ⟨w.heap.size + 1, 3, none⟩ = some (.string (bs s)) := (HK.out.below hb2 HK.out.lt).cell 3
        have kk4 : w2.cell? ⟨w.heap.size + 1, 4, none⟩ = some (.slice A n c) := (HK.out.below hb2 HK.out.lt).cell 4
        have u4 : w2.cell? ⟨w.heap.size, 4, none⟩ = some (.slice S1 m1 k1) := (HKT.out.below hb2 HKT.out.lt).cell 4
        have u5 : w2.cell? ⟨w.heap.size, 5, none⟩ = some (.int .i64 fl) := (HKT.out.below hb2 HKT.out.lt).cell 5
        have u6 : w2.cell? ⟨w.heap.size, 6, none⟩ = some (.slice S2 m2 k2) := (HKT.out.below hb2 HKT.out.lt).cell 6
        have u7 : w2.cell? ⟨w.heap.size, 7, none⟩ = some (.slice S3 m3 k3) := (HKT.out.below hb2 HKT.out.lt).cell 7
        clear hb2
        cases q1 with
        | false =>
          go_wp2_with fail
          go_meet
          case rel => exact ⟨by rw [HE1.out] <;> rfl, HB2.out⟩
        | true =>
          go_wp2_with fail
          refine (r10among_any w2 m 0 ((m1 : Int) - 1)).mono ?_
          rintro f w3 ⟨rfl, rfl⟩
          rw [← Hq2.out]
          go_wp2_with fail
          go_meet
          case rel => exact ⟨by rw [HE1.out] <;> rfl, HB2.out⟩
    by_cases h4 : k = 4
    · subst h4
      obtain ⟨q0, hq0⟩ : ∃ q, q = bareE (.mk 4 o m s A n c es) 1 false false false := ⟨_, rfl⟩
      have e1 : okB (TB.mk m1 fl m2 m3 m8 fs ps) loc said (.mk 4 o m s A n c es) = (q0) := by
        rw [hq0]
        exact (if_neg (by show ¬ ((4 : Int) = 1); decide)).trans ((if_neg (by show ¬ ((4 : Int) = 14); decide)).trans ((if_neg (by show ¬ ((4 : Int) = 15); decide)).trans ((if_neg (by show ¬ ((4 : Int) = 19); decide)).trans ((if_pos (by show (4 : Int) = 4 ∨ (4 : Int) = 5 ∨ (4 : Int) = 11; decide)).trans rfl))))
      have Hq0 := Lib.hid hq0
      have HE1 := Lib.hid e1
      clear e1 hq0
      go_wp2_with (refine wpList_load_row rfl 31 _ rfl (w.heap.size + 1) rfl 31 #[.int .i64 4, .int .i64 o, .int .i64 m, .string (bs s), .slice A n c] (0, 0) _ HK.out Try.underlying31 rfl expr_size ?_)
      refine (HCB.out 1 false false false W HBW.out).mono ?_
      rintro f w2 ⟨rfl, hb2⟩
      rw [← Hq0.out]
      have HB2 := Lib.hid hb2
      have kk1 : w2.cell? ⟨w.heap.size + 1, 1, none⟩ = some (.int .i64 o) := (HK.out.below hb2 HK.out.lt).cell 1
      have kk2 : w2.cell? ⟨w.heap.size + 1, 2, none⟩ = some (.int .i64 m) := (HK.out.below hb2 HK.out.lt).cell 2
      have kk3 : w2.cell? ⟨w.heap.size + 1, 3, none⟩ = some (.string (bs s)) := (HK.out.below hb2 HK.out.lt).cell 3
      have kk4 : w2.cell? ⟨w.heap.size + 1, 4, none⟩ = some (.slice A n c) := (HK.out.below hb2 HK.out.lt).cell 4
      have u4 : w2.cell? ⟨w.heap.size, 4, none⟩ = some (.slice S1 m1 k1) := (HKT.out.below hb2 HKT.out.lt).cell 4
      have u5 : w2.cell? ⟨w.heap.size, 5, none⟩ = some (.int .i64 fl) := (HKT.out.below hb2 HKT.out.lt).cell 5
      have u6 : w2.cell? ⟨w.heap.size, 6, none⟩ = some (.slice S2 m2 k2) := (HKT.out.below hb2 HKT.out.lt).cell 6
      have u7 : w2.cell? ⟨w.heap.size, 7, none⟩ = some (.slice S3 m3 k3) := (HKT.out.below hb2 HKT.out.lt).cell 7
      clear hb2
      go_wp2_with fail
      go_meet
      case rel => exact ⟨by rw [HE1.out] <;> rfl, HB2.out⟩
    by_cases h5 : k = 5
    · subst h5
      obtain ⟨q0, hq0⟩ : ∃ q, q = bareE (.mk 5 o m s A n c es) 1 false false false := ⟨_, rfl⟩
      have e1 : okB (TB.mk m1 fl m2 m3 m8 fs ps) loc said (.mk 5 o m s A n c es) = (q0) := by
        rw [hq0]
        exact (if_neg (by show ¬ ((5 : Int) = 1); decide)).trans ((if_neg (by show ¬ ((5 : Int) = 14); decide)).trans ((if_neg (by show ¬ ((5 : Int) = 15); decide)).trans ((if_neg (by show ¬ ((5 : Int) = 19); decide)).trans ((if_pos (by show (5 : Int) = 4 ∨ (5 : Int) = 5 ∨ (5 : Int) = 11; decide)).trans rfl))))
      have Hq0 := Lib.hid hq0
      have HE1 := Lib.hid e1
      clear e1 hq0
      go_wp2_with (refine wpList_load_row rfl 31 _ rfl (w.heap.size + 1) rfl 31 #[.int .i64 5, .int .i64 o, .int .i64 m, .string (bs s), .slice A n c] (0, 0) _ HK.out Try.underlying31 rfl expr_size ?_)
      refine (HCB.out 1 false false false W HBW.out).mono ?_
      rintro f w2 ⟨rfl, hb2⟩
      rw [← Hq0.out]
      have HB2 := Lib.hid hb2
      have kk1 : w2.cell? ⟨w.heap.size + 1, 1, none⟩ = some (.int .i64 o) := (HK.out.below hb2 HK.out.lt).cell 1
      have kk2 : w2.cell? ⟨w.heap.size + 1, 2, none⟩ = some (.int .i64 m) := (HK.out.below hb2 HK.out.lt).cell 2
      have kk3 : w2.cell? ⟨w.heap.size + 1, 3, none⟩ = some (.string (bs s)) := (HK.out.below hb2 HK.out.lt).cell 3
      have kk4 : w2.cell? ⟨w.heap.size + 1, 4, none⟩ = some (.slice A n c) := (HK.out.below hb2 HK.out.lt).cell 4
      have u4 : w2.cell? ⟨w.heap.size, 4, none⟩ = some (.slice S1 m1 k1) := (HKT.out.below hb2 HKT.out.lt).cell 4
      have u5 : w2.cell? ⟨w.heap.size, 5, none⟩ = some (.int .i64 fl) := (HKT.out.below hb2 HKT.out.lt).cell 5
      have u6 : w2.cell? ⟨w.heap.size, 6, none⟩ = some (.slice S2 m2 k2) := (HKT.out.below hb2 HKT.out.lt).cell 6
      have u7 : w2.cell? ⟨w.heap.size, 7, none⟩ = some (.slice S3 m3 k3) := (HKT.out.below hb2 HKT.out.lt).cell 7
      clear hb2
      go_wp2_with fail
      go_meet
      case rel => exact ⟨by rw [HE1.out] <;> rfl, HB2.out⟩
    by_cases h11 : k = 11
    · subst h11
      obtain ⟨q0, hq0⟩ : ∃ q, q = bareE (.mk 11 o m s A n c es) 1 false false false := ⟨_, rfl⟩
      have e1 : okB (TB.mk m1 fl m2 m3 m8 fs ps) loc said (.mk 11 o m s A n c es) = (q0) := by
        rw [hq0]
        exact (if_neg (by show ¬ ((11 : Int) = 1); decide)).trans ((if_neg (by show ¬ ((11 : Int) = 14); decide)).trans ((if_neg (by show ¬ ((11 : Int) = 15); decide)).trans ((if_neg (by show ¬ ((11 : Int) = 19); decide)).trans ((if_pos (by show (11 : Int) = 4 ∨ (11 : Int) = 5 ∨ (11 : Int) = 11; decide)).trans rfl))))
      have Hq0 := Lib.hid hq0
      have HE1 := Lib.hid e1
      clear e1 hq0
      go_wp2_with (refine wpList_load_row rfl 31 _ rfl (w.heap.size + 1) rfl 31 #[.int .i64 11, .int .i64 o, .int .i64 m, .string (bs s), .slice A n c] (0, 0) _ HK.out Try.underlying31 rfl expr_size ?_)
      refine (HCB.out 1 false false false W HBW.out).mono ?_
      rintro f w2 ⟨rfl, hb2⟩
      rw [← Hq0.out]
      have HB2 := Lib.hid hb2
      have kk1 : w2.cell? ⟨w.heap.size + 1, 1, none⟩ = some (.int .i64 o) := (HK.out.below hb2 HK.out.lt).cell 1
      have kk2 : w2.cell? ⟨w.heap.size + 1, 2, none⟩ = some (.int .i64 m) := (HK.out.below hb2 HK.out.lt).cell 2
      have kk3 : w2.cell? ⟨w.heap.size + 1, 3, none⟩ = some (.string (bs s)) := (HK.out.below hb2 HK.out.lt).cell 3
      have kk4 : w2.cell? ⟨w.heap.size + 1, 4, none⟩ = some (.slice A n c) := (HK.out.below hb2 HK.out.lt).cell 4
      have u4 : w2.cell? ⟨w.heap.size, 4, none⟩ = some (.slice S1 m1 k1) := (HKT.out.below hb2 HKT.out.lt).cell 4
      have u5 : w2.cell? ⟨w.heap.size, 5, none⟩ = some (.int .i64 fl) := (HKT.out.below hb2 HKT.out.lt).cell 5
      have u6 : w2.cell? ⟨w.heap.size, 6, none⟩ = some (.slice S2 m2 k2) := (HKT.out.below hb2 HKT.out.lt).cell 6
      have u7 : w2.cell? ⟨w.heap.size, 7, none⟩ = some (.slice S3 m3 k3) := (HKT.out.below hb2 HKT.out.lt).cell 7
      clear hb2
      go_wp2_with fail
      go_meet
      case rel => exact ⟨by rw [HE1.out] <;> rfl, HB2.out⟩
    by_cases h13 : k = 13
    · subst h13
      obtain ⟨q1, hq1⟩ : ∃ q, q = bareE (.mk 13 o m s A n c es) 1 false false false := ⟨_, rfl⟩
      have e1 : okB (TB.mk m1 fl m2 m3 m8 fs ps) loc said (.mk 13 o m s A n c es) = (said && q1) := by
        rw [hq1]
        exact (if_neg (by show ¬ ((13 : Int) = 1); decide)).trans ((if_neg (by show ¬ ((13 : Int) = 14); decide)).trans ((if_neg (by show ¬ ((13 : Int) = 15); decide)).trans ((if_neg (by show ¬ ((13 : Int) = 19); decide)).trans ((if_neg (by show ¬ ((13 : Int) = 4 ∨ (13 : Int) = 5 ∨ (13 : Int) = 11); decide)).trans ((if_pos (by show (13 : Int) = 13; decide)).trans rfl)))))
      have Hq1 := Lib.hid hq1
      have HE1 := Lib.hid e1
      clear e1 hq1
      cases said with
      | false =>
        go_wp2_with fail
        go_meet
        case rel => exact ⟨by rw [HE1.out] <;> rfl, HB0.out⟩
      | true =>
        go_wp2_with (refine wpList_load_row rfl 31 _ rfl (w.heap.size + 1) rfl 31 #[.int .i64 13, .int .i64 o, .int .i64 m, .string (bs s), .slice A n c] (0, 0) _ HK.out Try.underlying31 rfl expr_size ?_)
        refine (HCB.out 1 false false false W HBW.out).mono ?_
        rintro f w2 ⟨rfl, hb2⟩
        rw [← Hq1.out]
        have HB2 := Lib.hid hb2
        have kk1 : w2.cell? ⟨w.heap.size + 1, 1, none⟩ = some (.int .i64 o) := (HK.out.below hb2 HK.out.lt).cell 1
        have kk2 : w2.cell? ⟨w.heap.size + 1, 2, none⟩ = some (.int .i64 m) := (HK.out.below hb2 HK.out.lt).cell 2
        have kk3 : w2.cell? ⟨w.heap.size + 1, 3, none⟩ = some (.string (bs s)) := (HK.out.below hb2 HK.out.lt).cell 3
        have kk4 : w2.cell? ⟨w.heap.size + 1, 4, none⟩ = some (.slice A n c) := (HK.out.below hb2 HK.out.lt).cell 4
        have u4 : w2.cell? ⟨w.heap.size, 4, none⟩ = some (.slice S1 m1 k1) := (HKT.out.below hb2 HKT.out.lt).cell 4
        have u5 : w2.cell? ⟨w.heap.size, 5, none⟩ = some (.int .i64 fl) := (HKT.out.below hb2 HKT.out.lt).cell 5
        have u6 : w2.cell? ⟨w.heap.size, 6, none⟩ = some (.slice S2 m2 k2) := (HKT.out.below hb2 HKT.out.lt).cell 6
        have u7 : w2.cell? ⟨w.heap.size, 7, none⟩ = some (.slice S3 m3 k3) := (HKT.out.below hb2 HKT.out.lt).cell 7
        clear hb2
        go_wp2_with fail
        go_meet
        case rel => exact ⟨by rw [HE1.out] <;> rfl, HB2.out⟩
    by_cases h6 : k = 6
    · subst h6
      obtain ⟨q0, hq0⟩ : ∃ q, q = bareE (.mk 6 o m s A n c es) 2 true false false := ⟨_, rfl⟩
      obtain ⟨q1, hq1⟩ : ∃ q, q = amongB o 1 14 := ⟨_, rfl⟩
      have e1 : okB (TB.mk m1 fl m2 m3 m8 fs ps) loc said (.mk 6 o m s A n c es) = (q0 && q1) := by
        rw [hq0, hq1]
        exact (if_neg (by show ¬ ((6 : Int) = 1); decide)).trans ((if_neg (by show ¬ ((6 : Int) = 14); decide)).trans ((if_neg (by show ¬ ((6 : Int) = 15); decide)).trans ((if_neg (by show ¬ ((6 : Int) = 19); decide)).trans ((if_neg (by show ¬ ((6 : Int) = 4 ∨ (6 : Int) = 5 ∨ (6 : Int) = 11); decide)).trans ((if_neg (by show ¬ ((6 : Int) = 13); decide)).trans ((if_pos (by show (6 : Int) = 6; decide)).trans rfl))))))
      have Hq0 := Lib.hid hq0
      have Hq1 := Lib.hid hq1
      have HE1 := Lib.hid e1
      clear e1 hq0 hq1
      go_wp2_with (refine wpList_load_row rfl 31 _ rfl (w.heap.size + 1) rfl 31 #[.int .i64 6, .int .i64 o, .int .i64 m, .string (bs s), .slice A n c] (0, 0) _ HK.out Try.underlying31 rfl expr_size ?_)
      refine (HCB.out 2 true false false W HBW.out).mono ?_
      rintro f w2 ⟨rfl, hb2⟩
      rw [← Hq0.out]
      have HB2 := Lib.hid hb2
      have kk1 : w2.cell? ⟨w.heap.size + 1, 1, none⟩ = some (.int .i64 o) := (HK.out.below hb2 HK.out.lt).cell 1
      have kk2 : w2.cell? ⟨w.heap.size + 1, 2, none⟩ = some (.int .i64 m) := (HK.out.below hb2 HK.out.lt).cell 2
      have kk3 : w2.cell? ⟨w.heap.size + 1, 3, none⟩ = some (.string (bs s)) := (HK.out.below hb2 HK.out.lt).cell 3
      have kk4 : w2.cell? ⟨w.heap.size + 1, 4, none⟩ = some (.slice A n c) := (HK.out.below hb2 HK.out.lt).cell 4
      have u4 : w2.cell? ⟨w.heap.size, 4, none⟩ = some (.slice S1 m1 k1) := (HKT.out.below hb2 HKT.out.lt).cell 4
      have u5 : w2.cell? ⟨w.heap.size, 5, none⟩ = some (.int .i64 fl) := (HKT.out.below hb2 HKT.out.lt).cell 5
      have u6 : w2.cell? ⟨w.heap.size, 6, none⟩ = some (.slice S2 m2 k2) := (HKT.out.below hb2 HKT.out.lt).cell 6
      have u7 : w2.cell? ⟨w.heap.size, 7, none⟩ = some (.slice S3 m3 k3) := (HKT.out.below hb2 HKT.out.lt).cell 7
      clear hb2
      cases q0 with
      | false =>
        go_wp2_with fail
        go_meet
        case rel => exact ⟨by rw [HE1.out] <;> rfl, HB2.out⟩
      | true =>
        go_wp2_with fail
        refine (r10among_any w2 o 1 14).mono ?_
        rintro f w3 ⟨rfl, rfl⟩
        rw [← Hq1.out]
        go_wp2_with fail
        go_meet
        case rel => exact ⟨by rw [HE1.out] <;> rfl, HB2.out⟩
    by_cases h16 : k = 16
    · subst h16
      obtain ⟨q0, hq0⟩ : ∃ q, q = bareE (.mk 16 o m s A n c es) 1 false true false := ⟨_, rfl⟩
      obtain ⟨q1, hq1⟩ : ∃ q, q = decide (0 ≤ m) := ⟨_, rfl⟩
      obtain ⟨q2, hq2⟩ : ∃ q, q = decide (m < fl) := ⟨_, rfl⟩
      have e1 : okB (TB.mk m1 fl m2 m3 m8 fs ps) loc said (.mk 16 o m s A n c es) = (q0 && q1 && q2) := by
        rw [hq0, hq1, hq2]
        exact (if_neg (by show ¬ ((16 : Int) = 1); decide)).trans ((if_neg (by show ¬ ((16 : Int) = 14); decide)).trans ((if_neg (by show ¬ ((16 : Int) = 15); decide)).trans ((if_neg (by show ¬ ((16 : Int) = 19); decide)).trans ((if_neg (by show ¬ ((16 : Int) = 4 ∨ (16 : Int) = 5 ∨ (16 : Int) = 11); decide)).trans ((if_neg (by show ¬ ((16 : Int) = 13); decide)).trans ((if_neg (by show ¬ ((16 : Int) = 6); decide)).trans ((if_pos (by show (16 : Int) = 16; decide)).trans rfl)))))))
      have Hq0 := Lib.hid hq0
      have Hq1 := Lib.hid hq1
      have Hq2 := Lib.hid hq2
      have HE1 := Lib.hid e1
      clear e1 hq0 hq1 hq2
      go_wp2_with (refine wpList_load_row rfl 31 _ rfl (w.heap.size + 1) rfl 31 #[.int .i64 16, .int .i64 o, .int .i64 m, .string (bs s), .slice A n c] (0, 0) _ HK.out Try.underlying31 rfl expr_size ?_)
      refine (HCB.out 1 false true false W HBW.out).mono ?_
      rintro f w2 ⟨rfl, hb2⟩
      rw [← Hq0.out]
      have HB2 := Lib.hid hb2
      have kk1 : w2.cell? ⟨w.heap.size + 1, 1, none⟩ = some (.int .i64 o) := (HK.out.below hb2 HK.out.lt).cell 1
      have kk2 : w2.cell? ⟨w.heap.size + 1, 2, none⟩ = some (.int .i64 m) := (HK.out.below hb2 HK.out.lt).cell 2
      have kk3 : w2.cell? ⟨w.heap.size + 1, 3, none⟩ = some (.string (bs s)) := (HK.out.below hb2 HK.out.lt).cell 3
      have kk4 : w2.cell? ⟨w.heap.size + 1, 4, none⟩ = some (.slice A n c) := (HK.out.below hb2 HK.out.lt).cell 4
      have u4 : w2.cell? ⟨w.heap.size, 4, none⟩ = some (.slice S1 m1 k1) := (HKT.out.below hb2 HKT.out.lt).cell 4
      have u5 : w2.cell? ⟨w.heap.size, 5, none⟩ = some (.int .i64 fl) := (HKT.out.below hb2 HKT.out.lt).cell 5
      have u6 : w2.cell? ⟨w.heap.size, 6, none⟩ = some (.slice S2 m2 k2) := (HKT.out.below hb2 HKT.out.lt).cell 6
      have u7 : w2.cell? ⟨w.heap.size, 7, none⟩ = some (.slice S3 m3 k3) := (HKT.out.below hb2 HKT.out.lt).cell 7
      clear hb2
      cases q0 with
      | false =>
        go_wp2_with fail
        go_meet
        case rel => exact ⟨by rw [HE1.out] <;> rfl, HB2.out⟩
      | true =>
        by_cases g1 : 0 ≤ m
        · have hq1 : q1 = true := by rw [Hq1.out]; exact decide_eq_true g1
          by_cases g2 : m < fl
          · have hq2 : q2 = true := by rw [Hq2.out]; exact decide_eq_true g2
            go_wp2_with fail
            go_meet
            case rel => exact ⟨by rw [HE1.out, hq1, hq2] <;> rfl, HB2.out⟩
          · have hq2 : q2 = false := by rw [Hq2.out]; exact decide_eq_false g2
            have f2 : decide (m < fl) = false := by rw [decide_eq_false_iff_not]; exact g2
            clear g2
            go_wp2_with fail
            go_meet
            case rel => exact ⟨by rw [HE1.out, hq1, hq2] <;> rfl, HB2.out⟩
        · have hq1 : q1 = false := by rw [Hq1.out]; exact decide_eq_false g1
          have f1 : decide (0 ≤ m) = false := by rw [decide_eq_false_iff_not]; exact g1
          clear g1
          go_wp2_with fail
          go_meet
          case rel => exact ⟨by rw [HE1.out, hq1] <;> rfl, HB2.out⟩
    by_cases h17 : k = 17
    · subst h17
      obtain ⟨q0, hq0⟩ : ∃ q, q = bareE (.mk 17 o m s A n c es) 1 false true false := ⟨_, rfl⟩
      obtain ⟨q1, hq1⟩ : ∃ q, q = amongB m 0 ((m2 : Int) - 1) := ⟨_, rfl⟩
      have e1 : okB (TB.mk m1 fl m2 m3 m8 fs ps) loc said (.mk 17 o m s A n c es) = (q0 && q1) := by
        rw [hq0, hq1]
        exact (if_neg (by show ¬ ((17 : Int) = 1); decide)).trans ((if_neg (by show ¬ ((17 : Int) = 14); decide)).trans ((if_neg (by show ¬ ((17 : Int) = 15); decide)).trans ((if_neg (by show ¬ ((17 : Int) = 19); decide)).trans ((if_neg (by show ¬ ((17 : Int) = 4 ∨ (17 : Int) = 5 ∨ (17 : Int) = 11); decide)).trans ((if_neg (by show ¬ ((17 : Int) = 13); decide)).trans ((if_neg (by show ¬ ((17 : Int) = 6); decide)).trans ((if_neg (by show ¬ ((17 : Int) = 16); decide)).trans ((if_pos (by show (17 : Int) = 17; decide)).trans rfl))))))))
      have Hq0 := Lib.hid hq0
      have Hq1 := Lib.hid hq1
      have HE1 := Lib.hid e1
      clear e1 hq0 hq1
      go_wp2_with (refine wpList_load_row rfl 31 _ rfl (w.heap.size + 1) rfl 31 #[.int .i64 17, .int .i64 o, .int .i64 m, .string (bs s), .slice A n c] (0, 0) _ HK.out Try.underlying31 rfl expr_size ?_)
      refine (HCB.out 1 false true false W HBW.out).mono ?_
      rintro f w2 ⟨rfl, hb2⟩
      rw [← Hq0.out]
      have HB2 := Lib.hid hb2
      have kk1 : w2.cell? ⟨w.heap.size + 1, 1, none⟩ = some (.int .i64 o) := (HK.out.below hb2 HK.out.lt).cell 1
      have kk2 : w2.cell? ⟨w.heap.size + 1, 2, none⟩ = some (.int .i64 m) := (HK.out.below hb2 HK.out.lt).cell 2
      have kk3 : w2.cell? ⟨w.heap.size + 1, 3, none⟩ = some (.string (bs s)) := (HK.out.below hb2 HK.out.lt).cell 3
      have kk4 : w2.cell? ⟨w.heap.size + 1, 4, none⟩ = some (.slice A n c) := (HK.out.below hb2 HK.out.lt).cell 4
      have u4 : w2.cell? ⟨w.heap.size, 4, none⟩ = some (.slice S1 m1 k1) := (HKT.out.below hb2 HKT.out.lt).cell 4
      have u5 : w2.cell? ⟨w.heap.size, 5, none⟩ = some (.int .i64 fl) := (HKT.out.below hb2 HKT.out.lt).cell 5
      have u6 : w2.cell? ⟨w.heap.size, 6, none⟩ = some (.slice S2 m2 k2) := (HKT.out.below hb2 HKT.out.lt).cell 6
      have u7 : w2.cell? ⟨w.heap.size, 7, none⟩ = some (.slice S3 m3 k3) := (HKT.out.below hb2 HKT.out.lt).cell 7
      clear hb2
      cases q0 with
      | false =>
        go_wp2_with fail
        go_meet
        case rel => exact ⟨by rw [HE1.out] <;> rfl, HB2.out⟩
      | true =>
        go_wp2_with fail
        refine (r10among_any w2 m 0 ((m2 : Int) - 1)).mono ?_
        rintro f w3 ⟨rfl, rfl⟩
        rw [← Hq1.out]
        go_wp2_with fail
        go_meet
        case rel => exact ⟨by rw [HE1.out] <;> rfl, HB2.out⟩
    by_cases h18 : k = 18
    · subst h18
      obtain ⟨q0, hq0'⟩ : ∃ q, q = bareE (.mk 18 o m s A n c es) n false true false := ⟨_, rfl⟩
      have hq0 : q0 = bareE (.mk 18 o m s A n c es) es.length false true false := by rw [hq0', HL.out]
      obtain ⟨q1, hq1⟩ : ∃ q, q = decide (paramsT (TB.mk m1 fl m2 m3 m8 fs ps) m = (es.length : Int)) := ⟨_, rfl⟩
      have e1 : okB (TB.mk m1 fl m2 m3 m8 fs ps) loc said (.mk 18 o m s A n c es) = (q0 && q1) := by
        rw [hq0, hq1]
        exact (if_neg (by show ¬ ((18 : Int) = 1); decide)).trans ((if_neg (by show ¬ ((18 : Int) = 14); decide)).trans ((if_neg (by show ¬ ((18 : Int) = 15); decide)).trans ((if_neg (by show ¬ ((18 : Int) = 19); decide)).trans ((if_neg (by show ¬ ((18 : Int) = 4 ∨ (18 : Int) = 5 ∨ (18 : Int) = 11); decide)).trans ((if_neg (by show ¬ ((18 : Int) = 13); decide)).trans ((if_neg (by show ¬ ((18 : Int) = 6); decide)).trans ((if_neg (by show ¬ ((18 : Int) = 16); decide)).trans ((if_neg (by show ¬ ((18 : Int) = 17); decide)).trans ((if_pos (by show (18 : Int) = 18; decide)).trans rfl)))))))))
      have Hq0 := Lib.hid hq0'
      have Hq1 := Lib.hid hq1
      obtain ⟨p, hp⟩ : ∃ p, p = paramsT (TB.mk m1 fl m2 m3 m8 fs ps) m := ⟨_, rfl⟩
      have HP := Lib.hid hp
      have tq : (p == (n : Int)) = q1 := by rw [hp, hq1, HL.out, beqX]
      clear hp
      have HE1 := Lib.hid e1
      clear e1 hq0 hq1 hq0'
      have hce : Hid (∀ u : World, Below W.heap.size W u → u.cell? ⟨w.heap.size + 1, 0, none⟩ = some (.int .i64 18) ∧ u.cell? ⟨w.heap.size + 1, 1, none⟩ = some (.int .i64 o) ∧ u.cell? ⟨w.heap.size + 1, 2, none⟩ = some (.int .i64 m) ∧ u.cell? ⟨w.heap.size + 1, 3, none⟩ = some (.string (bs s)) ∧ u.cell? ⟨w.heap.size + 1, 4, none⟩ = some (.slice A n c)) := Lib.hid (fun u hb => by
        have hk2 := HK.out.below hb HK.out.lt
        exact ⟨hk2.cell 0, hk2.cell 1, hk2.cell 2, hk2.cell 3, hk2.cell 4⟩)
      have hct : Hid (∀ u : World, Below W.heap.size W u → u.cell? ⟨w.heap.size, 0, none⟩ = some (.int .i64 t1) ∧ u.cell? ⟨w.heap.size, 1, none⟩ = some (.int .i64 t2) ∧ u.cell? ⟨w.heap.size, 2, none⟩ = some (.int .i64 t3) ∧ u.cell? ⟨w.heap.size, 3, none⟩ = some (.int .i64 t4) ∧ u.cell? ⟨w.heap.size, 4, none⟩ = some (.slice S1 m1 k1) ∧ u.cell? ⟨w.heap.size, 5, none⟩ = some (.int .i64 fl) ∧ u.cell? ⟨w.heap.size, 6, none⟩ = some (.slice S2 m2 k2) ∧ u.cell? ⟨w.heap.size, 7, none⟩ = some (.slice S3 m3 k3) ∧ u.cell? ⟨w.heap.size, 8, none⟩ = some (.slice S4 m4 k4) ∧ u.cell? ⟨w.heap.size, 9, none⟩ = some (.slice S5 m5 k5) ∧ u.cell? ⟨w.heap.size, 10, none⟩ = some (.slice S6 m6 k6) ∧ u.cell? ⟨w.heap.size, 11, none⟩ = some (.slice S7 m7 k7) ∧ u.cell? ⟨w.heap.size, 12, none⟩ = some (.slice S8 m8 k8) ∧ u.cell? ⟨w.heap.size, 13, none⟩ = some (.slice S9 m9 k9) ∧ u.cell? ⟨w.heap.size, 14, none⟩ = some (.slice S10 m10 k10)) := Lib.hid (fun u hb => by
        have hk2 := HKT.out.below hb HKT.out.lt
        exact ⟨hk2.cell 0, hk2.cell 1, hk2.cell 2, hk2.cell 3, hk2.cell 4, hk2.cell 5, hk2.cell 6, hk2.cell 7, hk2.cell 8, hk2.cell 9, hk2.cell 10, hk2.cell 11, hk2.cell 12, hk2.cell 13, hk2.cell 14⟩)
      clear kk0 kk1 kk2 kk3 kk4
      cases q0 with
      | false =>
        go_wp2_with fail
        refine wp_region_held_drew (S := Below W.heap.size W) (by kernel_rfl) (Below.refl _ _).drew (fun hHeld => ?_)
        refine held_take (i := 0) (fuel := 15) (v := ?_) (by rw [List.getElem?_toArray]; rfl) (by kernel_rfl) (by kernel_rfl) (by kernel_rfl) hHeld ?_ ?_ ?_ ?_
        rotate_left
        · intro u hSw
          obtain ⟨c0, c1, c2, c3, c4⟩ := hce.out u hSw
          go_simp
          try with_reducible rfl
        · rfl
        · exact fun _ _ _ h => h
        try simp only [Act.put, List.setIfInBounds_toArray, List.set_cons_zero, List.set_cons_succ]
        refine held_take (i := 1) (fuel := 14) (v := ?_) (by rw [List.getElem?_toArray]; rfl) (by kernel_rfl) (by kernel_rfl) (by kernel_rfl) hHeld ?_ ?_ ?_ ?_
        rotate_left
        · intro u hSw
          go_simp
          try with_reducible rfl
        · rfl
        · exact fun _ _ _ h => h
        try simp only [Act.put, List.setIfInBounds_toArray, List.set_cons_zero, List.set_cons_succ]
        refine held_take (i := 2) (fuel := 13) (v := ?_) (by rw [List.getElem?_toArray]; rfl) (by kernel_rfl) (by kernel_rfl) (by kernel_rfl) hHeld ?_ ?_ ?_ ?_
        rotate_left
        · intro u hSw
          obtain ⟨c0, c1, c2, c3, c4⟩ := hce.out u hSw
          go_simp
          try with_reducible rfl
        · rfl
        · exact fun _ _ _ h => h
        try simp only [Act.put, List.setIfInBounds_toArray, List.set_cons_zero, List.set_cons_succ]
        refine held_take (i := 3) (fuel := 12) (v := ?_) (by rw [List.getElem?_toArray]; rfl) (by kernel_rfl) (by kernel_rfl) (by kernel_rfl) hHeld ?_ ?_ ?_ ?_
        rotate_left
        · intro u hSw
          go_simp
          try with_reducible rfl
        · rfl
        · exact fun _ _ _ h => h
        try simp only [Act.put, List.setIfInBounds_toArray, List.set_cons_zero, List.set_cons_succ]
        refine held_one (i := 4) (fuel := 11) (by kernel_rfl) (by rw [List.getElem?_toArray]; rfl) (fun K hK => ?_)
        go_simp
        refine (HCB.out n false true false _ (HBW.out.trans (hHeld.mono HBW.out.size))).mono ?_
        rintro f w3 ⟨rfl, hb3⟩
        rw [← Hq0.out]
        refine hK.out _ _ ?_ (fun hHeld => ?_)
        · exact hHeld.trans (hb3.mono hHeld.size)
        clear hK K
        try simp only [Act.put, List.setIfInBounds_toArray, List.set_cons_zero, List.set_cons_succ]
        refine held_take (i := 5) (fuel := 10) (v := ?_) (by rw [List.getElem?_toArray]; rfl) (by kernel_rfl) (by kernel_rfl) (by kernel_rfl) hHeld ?_ ?_ ?_ ?_
        rotate_left
        · intro u hSw
          go_simp
          try with_reducible rfl
        · rfl
        · exact fun _ _ _ h => h
        try simp only [Act.put, List.setIfInBounds_toArray, List.set_cons_zero, List.set_cons_succ]
        refine held_skip (i := 6) (fuel := 9) (by rw [List.getElem?_toArray]; rfl) (by kernel_rfl) (by kernel_rfl) (by kernel_rfl) hHeld ?_ ?_ ?_
        · rfl
        · exact fun _ _ _ h => h
        try simp only [Act.put, List.setIfInBounds_toArray, List.set_cons_zero, List.set_cons_succ]
        refine held_skip (i := 7) (fuel := 8) (by rw [List.getElem?_toArray]; rfl) (by kernel_rfl) (by kernel_rfl) (by kernel_rfl) hHeld ?_ ?_ ?_
        · rfl
        · exact fun _ _ _ h => h
        try simp only [Act.put, List.setIfInBounds_toArray, List.set_cons_zero, List.set_cons_succ]
        refine held_skip (i := 8) (fuel := 7) (by rw [List.getElem?_toArray]; rfl) (by kernel_rfl) (by kernel_rfl) (by kernel_rfl) hHeld ?_ ?_ ?_
        · rfl
        · exact fun _ _ _ h => h
        try simp only [Act.put, List.setIfInBounds_toArray, List.set_cons_zero, List.set_cons_succ]
        refine held_skip (i := 9) (fuel := 6) (by rw [List.getElem?_toArray]; rfl) (by kernel_rfl) (by kernel_rfl) (by kernel_rfl) hHeld ?_ ?_ ?_
        · rfl
        · exact fun _ _ _ h => h
        try simp only [Act.put, List.setIfInBounds_toArray, List.set_cons_zero, List.set_cons_succ]
        refine held_skip (i := 10) (fuel := 5) (by rw [List.getElem?_toArray]; rfl) (by kernel_rfl) (by kernel_rfl) (by kernel_rfl) hHeld ?_ ?_ ?_
        · rfl
        · exact fun _ _ _ h => h
        try simp only [Act.put, List.setIfInBounds_toArray, List.set_cons_zero, List.set_cons_succ]
        refine held_skip (i := 11) (fuel := 4) (by rw [List.getElem?_toArray]; rfl) (by kernel_rfl) (by kernel_rfl) (by kernel_rfl) hHeld ?_ ?_ ?_
        · rfl
        · exact fun _ _ _ h => h
        try simp only [Act.put, List.setIfInBounds_toArray, List.set_cons_zero, List.set_cons_succ]
        refine held_skip (i := 12) (fuel := 3) (by rw [List.getElem?_toArray]; rfl) (by kernel_rfl) (by kernel_rfl) (by kernel_rfl) hHeld ?_ ?_ ?_
        · rfl
        · exact fun _ _ _ h => h
        try simp only [Act.put, List.setIfInBounds_toArray, List.set_cons_zero, List.set_cons_succ]
        refine held_skip (i := 13) (fuel := 2) (by rw [List.getElem?_toArray]; rfl) (by kernel_rfl) (by kernel_rfl) (by kernel_rfl) hHeld ?_ ?_ ?_
        · rfl
        · exact fun _ _ _ h => h
        try simp only [Act.put, List.setIfInBounds_toArray, List.set_cons_zero, List.set_cons_succ]
        refine held_take (i := 14) (fuel := 1) (v := ?_) (by rw [List.getElem?_toArray]; rfl) (by kernel_rfl) (by kernel_rfl) (by kernel_rfl) hHeld ?_ ?_ ?_ ?_
        rotate_left
        · intro u hSw
          go_simp
          try with_reducible rfl
        · rfl
        · exact fun _ _ _ h => h
        try simp only [Act.put, List.setIfInBounds_toArray, List.set_cons_zero, List.set_cons_succ]
        refine held_take (i := 15) (fuel := 0) (v := ?_) (by rw [List.getElem?_toArray]; rfl) (by kernel_rfl) (by kernel_rfl) (by kernel_rfl) hHeld ?_ ?_ ?_ ?_
        rotate_left
        · intro u hSw
          go_simp
          try with_reducible rfl
        · rfl
        · exact fun _ _ _ h => h
        try simp only [Act.put, List.setIfInBounds_toArray, List.set_cons_zero, List.set_cons_succ]
        refine wpAnyH_done (by kernel_rfl) ?_ _
        have HF := Lib.hid hHeld
        clear hHeld
        go_wp2_with fail
        go_meet
        case rel => exact ⟨by rw [HE1.out] <;> rfl, HF.out⟩
      | true =>
        go_wp2_with fail
        refine wp_region_held_drew (S := Below W.heap.size W) (by kernel_rfl) (Below.refl _ _).drew (fun hHeld => ?_)
        refine held_take (i := 0) (fuel := 15) (v := ?_) (by rw [List.getElem?_toArray]; rfl) (by kernel_rfl) (by kernel_rfl) (by kernel_rfl) hHeld ?_ ?_ ?_ ?_
        rotate_left
        · intro u hSw
          obtain ⟨c0, c1, c2, c3, c4⟩ := hce.out u hSw
          go_simp
          try with_reducible rfl
        · rfl
        · exact fun _ _ _ h => h
        try simp only [Act.put, List.setIfInBounds_toArray, List.set_cons_zero, List.set_cons_succ]
        refine held_take (i := 1) (fuel := 14) (v := ?_) (by rw [List.getElem?_toArray]; rfl) (by kernel_rfl) (by kernel_rfl) (by kernel_rfl) hHeld ?_ ?_ ?_ ?_
        rotate_left
        · intro u hSw
          go_simp
          try with_reducible rfl
        · rfl
        · exact fun _ _ _ h => h
        try simp only [Act.put, List.setIfInBounds_toArray, List.set_cons_zero, List.set_cons_succ]
        refine held_take (i := 2) (fuel := 13) (v := ?_) (by rw [List.getElem?_toArray]; rfl) (by kernel_rfl) (by kernel_rfl) (by kernel_rfl) hHeld ?_ ?_ ?_ ?_
        rotate_left
        · intro u hSw
          obtain ⟨c0, c1, c2, c3, c4⟩ := hce.out u hSw
          go_simp
          try with_reducible rfl
        · rfl
        · exact fun _ _ _ h => h
        try simp only [Act.put, List.setIfInBounds_toArray, List.set_cons_zero, List.set_cons_succ]
        refine held_take (i := 3) (fuel := 12) (v := ?_) (by rw [List.getElem?_toArray]; rfl) (by kernel_rfl) (by kernel_rfl) (by kernel_rfl) hHeld ?_ ?_ ?_ ?_
        rotate_left
        · intro u hSw
          go_simp
          try with_reducible rfl
        · rfl
        · exact fun _ _ _ h => h
        try simp only [Act.put, List.setIfInBounds_toArray, List.set_cons_zero, List.set_cons_succ]
        refine held_one (i := 4) (fuel := 11) (by kernel_rfl) (by rw [List.getElem?_toArray]; rfl) (fun K hK => ?_)
        go_simp
        refine (HCB.out n false true false _ (HBW.out.trans (hHeld.mono HBW.out.size))).mono ?_
        rintro f w3 ⟨rfl, hb3⟩
        rw [← Hq0.out]
        refine hK.out _ _ ?_ (fun hHeld => ?_)
        · exact hHeld.trans (hb3.mono hHeld.size)
        clear hK K
        try simp only [Act.put, List.setIfInBounds_toArray, List.set_cons_zero, List.set_cons_succ]
        refine held_take (i := 5) (fuel := 10) (v := ?_) (by rw [List.getElem?_toArray]; rfl) (by kernel_rfl) (by kernel_rfl) (by kernel_rfl) hHeld ?_ ?_ ?_ ?_
        rotate_left
        · intro u hSw
          go_simp
          try with_reducible rfl
        · rfl
        · exact fun _ _ _ h => h
        try simp only [Act.put, List.setIfInBounds_toArray, List.set_cons_zero, List.set_cons_succ]
        refine held_take (i := 6) (fuel := 9) (v := ?_) (by rw [List.getElem?_toArray]; rfl) (by kernel_rfl) (by kernel_rfl) (by kernel_rfl) hHeld ?_ ?_ ?_ ?_
        rotate_left
        · intro u hSw
          obtain ⟨c0, c1, c2, c3, c4, c5, c6, c7, c8, c9, c10, c11, c12, c13, c14⟩ := hct.out u hSw
          go_simp
          try with_reducible rfl
        · rfl
        · exact fun _ _ _ h => h
        try simp only [Act.put, List.setIfInBounds_toArray, List.set_cons_zero, List.set_cons_succ]
        refine held_take (i := 7) (fuel := 8) (v := ?_) (by rw [List.getElem?_toArray]; rfl) (by kernel_rfl) (by kernel_rfl) (by kernel_rfl) hHeld ?_ ?_ ?_ ?_
        rotate_left
        · intro u hSw
          go_simp
          try with_reducible rfl
        · rfl
        · exact fun _ _ _ h => h
        try simp only [Act.put, List.setIfInBounds_toArray, List.set_cons_zero, List.set_cons_succ]
        refine held_take (i := 8) (fuel := 7) (v := ?_) (by rw [List.getElem?_toArray]; rfl) (by kernel_rfl) (by kernel_rfl) (by kernel_rfl) hHeld ?_ ?_ ?_ ?_
        rotate_left
        · intro u hSw
          obtain ⟨c0, c1, c2, c3, c4⟩ := hce.out u hSw
          go_simp
          try with_reducible rfl
        · rfl
        · exact fun _ _ _ h => h
        try simp only [Act.put, List.setIfInBounds_toArray, List.set_cons_zero, List.set_cons_succ]
        refine held_take (i := 10) (fuel := 6) (v := ?_) (by rw [List.getElem?_toArray]; rfl) (by kernel_rfl) (by kernel_rfl) (by kernel_rfl) hHeld ?_ ?_ ?_ ?_
        rotate_left
        · intro u hSw
          go_simp
          try with_reducible rfl
        · rfl
        · exact fun _ _ _ h => h
        try simp only [Act.put, List.setIfInBounds_toArray, List.set_cons_zero, List.set_cons_succ]
        refine held_take (i := 11) (fuel := 5) (v := ?_) (by rw [List.getElem?_toArray]; rfl) (by kernel_rfl) (by kernel_rfl) (by kernel_rfl) hHeld ?_ ?_ ?_ ?_
        rotate_left
        · intro u hSw
          obtain ⟨c0, c1, c2, c3, c4⟩ := hce.out u hSw
          go_simp
          try with_reducible rfl
        · rfl
        · exact fun _ _ _ h => h
        try simp only [Act.put, List.setIfInBounds_toArray, List.set_cons_zero, List.set_cons_succ]
        refine held_take (i := 12) (fuel := 4) (v := ?_) (by rw [List.getElem?_toArray]; rfl) (by kernel_rfl) (by kernel_rfl) (by kernel_rfl) hHeld ?_ ?_ ?_ ?_
        rotate_left
        · intro u hSw
          go_simp
          try with_reducible rfl
        · rfl
        · exact fun _ _ _ h => h
        try simp only [Act.put, List.setIfInBounds_toArray, List.set_cons_zero, List.set_cons_succ]
        refine held_one (i := 9) (fuel := 3) (by kernel_rfl) (by rw [List.getElem?_toArray]; rfl) (fun K hK => ?_)
        go_simp
        refine (HPR.out _ (HBW.out.trans (hHeld.mono HBW.out.size))).mono ?_
        rintro f w4 ⟨rfl, hb4⟩
        rw [← HP.out]
        refine hK.out _ _ ?_ (fun hHeld => ?_)
        · exact hHeld.trans (hb4.mono hHeld.size)
        clear hK K
        try simp only [Act.put, List.setIfInBounds_toArray, List.set_cons_zero, List.set_cons_succ]
        refine held_take (i := 13) (fuel := 2) (v := ?_) (by rw [List.getElem?_toArray]; rfl) (by kernel_rfl) (by kernel_rfl) (by kernel_rfl) hHeld ?_ ?_ ?_ ?_
        rotate_left
        · intro u hSw
          go_simp
          try with_reducible rfl
        · rfl
        · exact fun _ _ _ h => h
        try simp only [Act.put, List.setIfInBounds_toArray, List.set_cons_zero, List.set_cons_succ]
        refine held_take (i := 14) (fuel := 1) (v := ?_) (by rw [List.getElem?_toArray]; rfl) (by kernel_rfl) (by kernel_rfl) (by kernel_rfl) hHeld ?_ ?_ ?_ ?_
        rotate_left
        · intro u hSw
          go_simp
          try with_reducible rfl
        · rfl
        · exact fun _ _ _ h => h
        try simp only [Act.put, List.setIfInBounds_toArray, List.set_cons_zero, List.set_cons_succ]
        refine held_take (i := 15) (fuel := 0) (v := ?_) (by rw [List.getElem?_toArray]; rfl) (by kernel_rfl) (by kernel_rfl) (by kernel_rfl) hHeld ?_ ?_ ?_ ?_
        rotate_left
        · intro u hSw
          go_simp
          try with_reducible rfl
        · rfl
        · exact fun _ _ _ h => h
        try simp only [Act.put, List.setIfInBounds_toArray, List.set_cons_zero, List.set_cons_succ]
        refine wpAnyH_done (by kernel_rfl) ?_ _
        have HF := Lib.hid hHeld
        clear hHeld
        go_wp2_with fail
        go_meet
        case rel => exact ⟨by rw [HE1.out] <;> rfl, HF.out⟩
    by_cases h10 : k = 10
    · subst h10
      obtain ⟨q0, hq0⟩ : ∃ q, q = bareE (.mk 10 o m s A n c es) 1 true false false := ⟨_, rfl⟩
      obtain ⟨q1, hq1⟩ : ∃ q, q = amongB o 1 3 := ⟨_, rfl⟩
      have e1 : okB (TB.mk m1 fl m2 m3 m8 fs ps) loc said (.mk 10 o m s A n c es) = (q0 && q1) := by
        rw [hq0, hq1]
        exact (if_neg (by show ¬ ((10 : Int) = 1); decide)).trans ((if_neg (by show ¬ ((10 : Int) = 14); decide)).trans ((if_neg (by show ¬ ((10 : Int) = 15); decide)).trans ((if_neg (by show ¬ ((10 : Int) = 19); decide)).trans ((if_neg (by show ¬ ((10 : Int) = 4 ∨ (10 : Int) = 5 ∨ (10 : Int) = 11); decide)).trans ((if_neg (by show ¬ ((10 : Int) = 13); decide)).trans ((if_neg (by show ¬ ((10 : Int) = 6); decide)).trans ((if_neg (by show ¬ ((10 : Int) = 16); decide)).trans ((if_neg (by show ¬ ((10 : Int) = 17); decide)).trans ((if_neg (by show ¬ ((10 : Int) = 18); decide)).trans ((if_pos (by show (10 : Int) = 10; decide)).trans rfl))))))))))
      have Hq0 := Lib.hid hq0
      have Hq1 := Lib.hid hq1
      have HE1 := Lib.hid e1
      clear e1 hq0 hq1
      go_wp2_with (refine wpList_load_row rfl 31 _ rfl (w.heap.size + 1) rfl 31 #[.int .i64 10, .int .i64 o, .int .i64 m, .string (bs s), .slice A n c] (0, 0) _ HK.out Try.underlying31 rfl expr_size ?_)
      refine (HCB.out 1 true false false W HBW.out).mono ?_
      rintro f w2 ⟨rfl, hb2⟩
      rw [← Hq0.out]
      have HB2 := Lib.hid hb2
      have kk1 : w2.cell? ⟨w.heap.size + 1, 1, none⟩ = some (.int .i64 o) := (HK.out.below hb2 HK.out.lt).cell 1
      have kk2 : w2.cell? ⟨w.heap.size + 1, 2, none⟩ = some (.int .i64 m) := (HK.out.below hb2 HK.out.lt).cell 2
      have kk3 : w2.cell? ⟨w.heap.size + 1, 3, none⟩ = some (.string (bs s)) := (HK.out.below hb2 HK.out.lt).cell 3
      have kk4 : w2.cell? ⟨w.heap.size + 1, 4, none⟩ = some (.slice A n c) := (HK.out.below hb2 HK.out.lt).cell 4
      have u4 : w2.cell? ⟨w.heap.size, 4, none⟩ = some (.slice S1 m1 k1) := (HKT.out.below hb2 HKT.out.lt).cell 4
      have u5 : w2.cell? ⟨w.heap.size, 5, none⟩ = some (.int .i64 fl) := (HKT.out.below hb2 HKT.out.lt).cell 5
      have u6 : w2.cell? ⟨w.heap.size, 6, none⟩ = some (.slice S2 m2 k2) := (HKT.out.below hb2 HKT.out.lt).cell 6
      have u7 : w2.cell? ⟨w.heap.size, 7, none⟩ = some (.slice S3 m3 k3) := (HKT.out.below hb2 HKT.out.lt).cell 7
      clear hb2
      cases q0 with
      | false =>
        go_wp2_with fail
        go_meet
        case rel => exact ⟨by rw [HE1.out] <;> rfl, HB2.out⟩
      | true =>
        go_wp2_with fail
        refine (r10among_any w2 o 1 3).mono ?_
        rintro f w3 ⟨rfl, rfl⟩
        rw [← Hq1.out]
        go_wp2_with fail
        go_meet
        case rel => exact ⟨by rw [HE1.out] <;> rfl, HB2.out⟩
    by_cases h12 : k = 12
    · subst h12
      obtain ⟨q0, hq0⟩ : ∃ q, q = bareE (.mk 12 o m s A n c es) 0 true false false := ⟨_, rfl⟩
      obtain ⟨q1, hq1⟩ : ∃ q, q = amongB o 1 6 := ⟨_, rfl⟩
      have e1 : okB (TB.mk m1 fl m2 m3 m8 fs ps) loc said (.mk 12 o m s A n c es) = (q0 && q1) := by
        rw [hq0, hq1]
        exact (if_neg (by show ¬ ((12 : Int) = 1); decide)).trans ((if_neg (by show ¬ ((12 : Int) = 14); decide)).trans ((if_neg (by show ¬ ((12 : Int) = 15); decide)).trans ((if_neg (by show ¬ ((12 : Int) = 19); decide)).trans ((if_neg (by show ¬ ((12 : Int) = 4 ∨ (12 : Int) = 5 ∨ (12 : Int) = 11); decide)).trans ((if_neg (by show ¬ ((12 : Int) = 13); decide)).trans ((if_neg (by show ¬ ((12 : Int) = 6); decide)).trans ((if_neg (by show ¬ ((12 : Int) = 16); decide)).trans ((if_neg (by show ¬ ((12 : Int) = 17); decide)).trans ((if_neg (by show ¬ ((12 : Int) = 18); decide)).trans ((if_neg (by show ¬ ((12 : Int) = 10); decide)).trans ((if_pos (by show (12 : Int) = 12; decide)).trans rfl)))))))))))
      have Hq0 := Lib.hid hq0
      have Hq1 := Lib.hid hq1
      have HE1 := Lib.hid e1
      clear e1 hq0 hq1
      go_wp2_with (refine wpList_load_row rfl 31 _ rfl (w.heap.size + 1) rfl 31 #[.int .i64 12, .int .i64 o, .int .i64 m, .string (bs s), .slice A n c] (0, 0) _ HK.out Try.underlying31 rfl expr_size ?_)
      refine (HCB.out 0 true false false W HBW.out).mono ?_
      rintro f w2 ⟨rfl, hb2⟩
      rw [← Hq0.out]
      have HB2 := Lib.hid hb2
      have kk1 : w2.cell? ⟨w.heap.size + 1, 1, none⟩ = some (.int .i64 o) := (HK.out.below hb2 HK.out.lt).cell 1
      have kk2 : w2.cell? ⟨w.heap.size + 1, 2, none⟩ = some (.int .i64 m) := (HK.out.below hb2 HK.out.lt).cell 2
      have kk3 : w2.cell? ⟨w.heap.size + 1, 3, none⟩ = some (.string (bs s)) := (HK.out.below hb2 HK.out.lt).cell 3
      have kk4 : w2.cell? ⟨w.heap.size + 1, 4, none⟩ = some (.slice A n c) := (HK.out.below hb2 HK.out.lt).cell 4
      have u4 : w2.cell? ⟨w.heap.size, 4, none⟩ = some (.slice S1 m1 k1) := (HKT.out.below hb2 HKT.out.lt).cell 4
      have u5 : w2.cell? ⟨w.heap.size, 5, none⟩ = some (.int .i64 fl) := (HKT.out.below hb2 HKT.out.lt).cell 5
      have u6 : w2.cell? ⟨w.heap.size, 6, none⟩ = some (.slice S2 m2 k2) := (HKT.out.below hb2 HKT.out.lt).cell 6
      have u7 : w2.cell? ⟨w.heap.size, 7, none⟩ = some (.slice S3 m3 k3) := (HKT.out.below hb2 HKT.out.lt).cell 7
      clear hb2
      cases q0 with
      | false =>
        go_wp2_with fail
        go_meet
        case rel => exact ⟨by rw [HE1.out] <;> rfl, HB2.out⟩
      | true =>
        go_wp2_with fail
        refine (r10among_any w2 o 1 6).mono ?_
        rintro f w3 ⟨rfl, rfl⟩
        rw [← Hq1.out]
        go_wp2_with fail
        go_meet
        case rel => exact ⟨by rw [HE1.out] <;> rfl, HB2.out⟩
    have e1 : okB (TB.mk m1 fl m2 m3 m8 fs ps) loc said (.mk k o m s A n c es) = false := (if_neg (by show ¬ (k = 1); omega)).trans ((if_neg (by show ¬ (k = 14); omega)).trans ((if_neg (by show ¬ (k = 15); omega)).trans ((if_neg (by show ¬ (k = 19); omega)).trans ((if_neg (by show ¬ (k = 4 ∨ k = 5 ∨ k = 11); omega)).trans ((if_neg (by show ¬ (k = 13); omega)).trans ((if_neg (by show ¬ (k = 6); omega)).trans ((if_neg (by show ¬ (k = 16); omega)).trans ((if_neg (by show ¬ (k = 17); omega)).trans ((if_neg (by show ¬ (k = 18); omega)).trans ((if_neg (by show ¬ (k = 10); omega)).trans ((if_neg (by show ¬ (k = 12); omega)).trans (rfl))))))))))))
    have t1e : (k == 1) = false := by rw [beq_eq_false_iff_ne]; exact h1
    have t14e : (k == 14) = false := by rw [beq_eq_false_iff_ne]; exact h14
    have t15e : (k == 15) = false := by rw [beq_eq_false_iff_ne]; exact h15
    have t19e : (k == 19) = false := by rw [beq_eq_false_iff_ne]; exact h19
    have t4e : (k == 4) = false := by rw [beq_eq_false_iff_ne]; exact h4
    have t5e : (k == 5) = false := by rw [beq_eq_false_iff_ne]; exact h5
    have t11e : (k == 11) = false := by rw [beq_eq_false_iff_ne]; exact h11
    have t13e : (k == 13) = false := by rw [beq_eq_false_iff_ne]; exact h13
    have t6e : (k == 6) = false := by rw [beq_eq_false_iff_ne]; exact h6
    have t16e : (k == 16) = false := by rw [beq_eq_false_iff_ne]; exact h16
    have t17e : (k == 17) = false := by rw [beq_eq_false_iff_ne]; exact h17
    have t18e : (k == 18) = false := by rw [beq_eq_false_iff_ne]; exact h18
    have t10e : (k == 10) = false := by rw [beq_eq_false_iff_ne]; exact h10
    have t12e : (k == 12) = false := by rw [beq_eq_false_iff_ne]; exact h12
    have HE1 := Lib.hid e1
    clear e1 h1 h14 h15 h19 h4 h5 h11 h13 h6 h16 h17 h18 h10 h12
    go_wp2_with fail
    go_meet
    case rel => exact ⟨by rw [HE1.out], HB0.out⟩
  case rest =>
    obtain ⟨rfl, hbc⟩ := hcut
    obtain ⟨ok, hok⟩ : ∃ ok, ok = okB (TB.mk m1 fl m2 m3 m8 fs ps) loc said (.mk k o m s A n c es) := ⟨_, rfl⟩
    rw [← hok]
    have HBC := Lib.hid hbc
    have HOK := Lib.hid hok
    have kk4 : wc.cell? ⟨w.heap.size + 1, 4, none⟩ = some (.slice A n c) := (HK.out.below HBC.out HK.out.lt).cell 4
    have HBC0 := Lib.hid (HBW.out.trans (HBC.out.mono HBW.out.size))
    clear hbc hok
    go_wp2_with fail
    go_loopw [9, 156] (fun vb vi wr => ∃ (j : Nat) (b : Bool), j ≤ n ∧ vi = .int .i64 j ∧ vb = .bool b ∧ Hid (b = (ok && (es.take j).all (boundE (TB.mk m1 fl m2 m3 m8 fs ps) loc false))) ∧ Hid (Below wc.heap.size wc wr)) (fun _ vi _ => n - (intOf vi).toNat)
    case atStart => exact ⟨0, ok, Nat.zero_le _, rfl, rfl, Lib.hid (by rw [List.take_zero, List.all_nil, Bool.and_true]), Lib.hid (Below.refl _ _)⟩
    case round =>
      obtain ⟨j, b, hj, rfl, rfl, HV, HB⟩ := hrel
      have HBR := Lib.hid (HBC0.out.trans (HB.out.mono HBC0.out.size))
      by_cases hlt : j < n
      · have hst := all_take (p := boundE (TB.mk m1 fl m2 m3 m8 fs ps) loc false) (l := es) (j := j) (d := nilE) (by rw [HL.out]; exact hlt)
        have hxjl : j < es.length := by rw [HL.out]; exact hlt
        obtain ⟨xad, rfl, xab, xc⟩ := row_at (HR.out.below HBR.out) hlt
        have hx := HA.out.at hxjl
        have hxmem : (es[j]?.getD nilE) ∈ es := by rw [List.getElem?_eq_getElem hxjl]; exact List.getElem_mem _
        obtain ⟨x, hxe⟩ : ∃ x, x = es[j]?.getD nilE := ⟨_, rfl⟩
        obtain ⟨a0, a1, a2, a3, a4⟩ := xc x hxe
        rw [← hxe] at hx hxmem
        have HXx := Lib.hid hx
        have HEx := Lib.hid hxe
        have HMx := Lib.hid hxmem
        rw [← hxe] at hst
        have HC := Lib.hid (IH.out _ hxmem)
        obtain ⟨xk, xo, xm, xs, xA, xn, xc', xes⟩ := x
        change wr.cell? (xad.add (j * 5)) = some (.int .i64 xk) at a0
        change wr.cell? ⟨(xad.add (j * 5)).block, (xad.add (j * 5)).off + 1, none⟩ = some (.int .i64 xo) at a1
        change wr.cell? ⟨(xad.add (j * 5)).block, (xad.add (j * 5)).off + 2, none⟩ = some (.int .i64 xm) at a2
        change wr.cell? ⟨(xad.add (j * 5)).block, (xad.add (j * 5)).off + 3, none⟩ = some (.string (bs xs)) at a3
        change wr.cell? ⟨(xad.add (j * 5)).block, (xad.add (j * 5)).off + 4, none⟩ = some (.slice xA xn xc') at a4
        clear xc hxe hx hxmem hxjl
        have HST := Lib.hid hst
        obtain ⟨q, hq⟩ : ∃ q, q = boundE (TB.mk m1 fl m2 m3 m8 fs ps) loc false (.mk xk xo xm xs xA xn xc' xes) := ⟨_, rfl⟩
        have HN : Hid ((b && q) = (ok && (es.take (j + 1)).all (boundE (TB.mk m1 fl m2 m3 m8 fs ps) loc false))) := Lib.hid (by rw [HST.out, HV.out, hq, Bool.and_assoc])
        have HQ := Lib.hid hq
        clear hst hq
        cases b with
        | false =>
          go_wp2_with (refine wpList_store_row rfl 31 _ _ rfl wr.heap.size #[.int .i64 xk, .int .i64 xo, .int .i64 xm, .string (bs xs), .slice xA xn xc'] rfl rfl _ _ (Blk.new wr _ _) expr_size rfl (expr_one _ _ _ _ _ _ _) ?_; obtain ⟨V, hV⟩ : ∃ V0, V0 = (wr.alloc (.cells #[.int .i64 0, .int .i64 0, .int .i64 0, .string ⟨#[]⟩, .slice none 0 0] 31)).setRow wr.heap.size #[.int .i64 xk, .int .i64 xo, .int .i64 xm, .string (bs xs), .slice xA xn xc'] := ⟨_, rfl⟩; rw [← hV]; obtain ⟨hkV, hbV⟩ := put_row hV; have HKV := Lib.hid hkV; have HBV := Lib.hid hbV; clear hV hkV hbV)
          have HB2 := Lib.hid (HB.out.trans (HBV.out.mono HB.out.size))
          go_roundw
          case rel => exact ⟨j + 1, false, by omega, by go_num, rfl, HN, HB2⟩
          case measure => simp [intOf]; omega
        | true =>
          go_wp2_with (refine wpList_store_row rfl 31 _ _ rfl wr.heap.size #[.int .i64 xk, .int .i64 xo, .int .i64 xm, .string (bs xs), .slice xA xn xc'] rfl rfl _ _ (Blk.new wr _ _) expr_size rfl (expr_one _ _ _ _ _ _ _) ?_; obtain ⟨V, hV⟩ : ∃ V0, V0 = (wr.alloc (.cells #[.int .i64 0, .int .i64 0, .int .i64 0, .string ⟨#[]⟩, .slice none 0 0] 31)).setRow wr.heap.size #[.int .i64 xk, .int .i64 xo, .int .i64 xm, .string (bs xs), .slice xA xn xc'] := ⟨_, rfl⟩; rw [← hV]; obtain ⟨hkV, hbV⟩ := put_row hV; have HKV := Lib.hid hkV; have HBV := Lib.hid hbV; clear hV hkV hbV; have v0 : V.cell? ⟨wr.heap.size, 0, none⟩ = some (.int .i64 xk) := HKV.out.cell 0; have v1 : V.cell? ⟨wr.heap.size, 1, none⟩ = some (.int .i64 xo) := HKV.out.cell 1; have v2 : V.cell? ⟨wr.heap.size, 2, none⟩ = some (.int .i64 xm) := HKV.out.cell 2; have v3 : V.cell? ⟨wr.heap.size, 3, none⟩ = some (.string (bs xs)) := HKV.out.cell 3; have v4 : V.cell? ⟨wr.heap.size, 4, none⟩ = some (.slice xA xn xc') := HKV.out.cell 4; have HTV := Lib.hid (HKT.out.below (HBC.out.trans ((HB.out.trans (HBV.out.mono HB.out.size)).mono HBC.out.size)) HKT.out.lt); have y0 : V.cell? ⟨w.heap.size, 0, none⟩ = some (.int .i64 t1) := HTV.out.cell 0; have y1 : V.cell? ⟨w.heap.size, 1, none⟩ = some (.int .i64 t2) := HTV.out.cell 1; have y2 : V.cell? ⟨w.heap.size, 2, none⟩ = some (.int .i64 t3) := HTV.out.cell 2; have y3 : V.cell? ⟨w.heap.size, 3, none⟩ = some (.int .i64 t4) := HTV.out.cell 3; have y4 : V.cell? ⟨w.heap.size, 4, none⟩ = some (.slice S1 m1 k1) := HTV.out.cell 4; have y5 : V.cell? ⟨w.heap.size, 5, none⟩ = some (.int .i64 fl) := HTV.out.cell 5; have y6 : V.cell? ⟨w.heap.size, 6, none⟩ = some (.slice S2 m2 k2) := HTV.out.cell 6; have y7 : V.cell? ⟨w.heap.size, 7, none⟩ = some (.slice S3 m3 k3) := HTV.out.cell 7; have y8 : V.cell? ⟨w.heap.size, 8, none⟩ = some (.slice S4 m4 k4) := HTV.out.cell 8; have y9 : V.cell? ⟨w.heap.size, 9, none⟩ = some (.slice S5 m5 k5) := HTV.out.cell 9; have y10 : V.cell? ⟨w.heap.size, 10, none⟩ = some (.slice S6 m6 k6) := HTV.out.cell 10; have y11 : V.cell? ⟨w.heap.size, 11, none⟩ = some (.slice S7 m7 k7) := HTV.out.cell 11; have y12 : V.cell? ⟨w.heap.size, 12, none⟩ = some (.slice S8 m8 k8) := HTV.out.cell 12; have y13 : V.cell? ⟨w.heap.size, 13, none⟩ = some (.slice S9 m9 k9) := HTV.out.cell 13; have y14 : V.cell? ⟨w.heap.size, 14, none⟩ = some (.slice S10 m10 k10) := HTV.out.cell 14)
          clear v0 v1 v2 v3 v4 y0 y1 y2 y3 y4 y5 y6 y7 y8 y9 y10 y11 y12 y13 y14
          have HBV2 := Lib.hid (HBR.out.trans (HBV.out.mono HBR.out.size))
          refine (HC.out V HBV2.out (EL.In.more HBV2.out.size (HXx.out.below HBV2.out))).mono ?_
          rintro f w2 ⟨rfl, hb2⟩
          rw [← HQ.out]
          have HB2 := Lib.hid (HB.out.trans ((HBV.out.trans (hb2.mono HBV.out.size)).mono HB.out.size))
          clear hb2
          go_wp2_with fail
          go_roundw
          case rel => exact ⟨j + 1, q, by omega, by go_num, rfl, by have := HN; rwa [Bool.true_and] at this, HB2⟩
          case measure => simp [intOf]; omega
      · obtain rfl : j = n := by omega
        have HE : Hid (es.take j = es) := Lib.hid (List.take_of_length_le (by rw [HL.out]; exact Nat.le_refl _))
        go_wp2_with fail
        go_ret
        rw [HV.out, HE.out, HOK.out]
        exact ⟨rfl, HBR.out⟩

end

section
open Go.RowKit

theorem len0 {α : Type} {l : List α} {n : Nat} (h : l.length = n) : ((n : Int) == 0) = true ↔ l = [] := by
  rw [beq_iff_eq]
  constructor
  · intro e; exact List.length_eq_zero_iff.1 (by omega)
  · intro e; rw [e] at h; simp at h; omega
theorem len0n {α : Type} {l : List α} {n : Nat} (h : l.length = n) (e : ¬ l = []) : ((n : Int) == 0) = false := by
  rw [Bool.eq_false_iff]
  exact fun h2 => e ((len0 h).1 h2)

set_option maxRecDepth 100000 in
set_option maxHeartbeats 6400000 in
theorem r10has_any (e : SL) (b : Nat) (named body other : Bool) (w : World) (hrow : RowE w w.heap.size e.A e.n e.args) (hrow1 : RowS6 w w.heap.size e.A1 e.n1 e.body) (hrow2 : RowS6 w w.heap.size e.A2 e.n2 e.els) :
    Calls Try.prog 91 #[sVal e, .bool named, .int .i64 b, .bool body, .bool other] w fun f w' => f = .returned (.bool (hasS e named b body other)) ∧ Below w.heap.size w w' := by
  obtain ⟨xk, xm, xs, xA, xn, xc', xes, xA1, xn1, xc1, xbo, xA2, xn2, xc2, xel⟩ := e
  have hn : xes.length = xn := hrow.1
  have hn1 : xbo.length = xn1 := hrow1.1
  have hn2 : xel.length = xn2 := hrow2.1
  show Calls Try.prog _ #[.agg #[.int .i64 xk, .int .i64 xm, .string (bs xs), .slice xA xn xc', .slice xA1 xn1 xc1, .slice xA2 xn2 xc2], .bool named, .int .i64 b, .bool body, .bool other] w fun f w' => f = .returned (.bool (decide (xes.length = b) && (body || xbo.isEmpty) && (other || xel.isEmpty) && (named || (xs.isEmpty && decide (xm = 0))))) ∧ Below w.heap.size w w'
  have HBW : Hid (Below w.heap.size w (w.alloc (.cells #[.int .i64 xk, .int .i64 xm, .string (bs xs), .slice xA xn xc', .slice xA1 xn1 xc1, .slice xA2 xn2 xc2] 48))) := Lib.hid ((Below.refl _ _).alloc (Nat.le_refl _) _)
  obtain ⟨r, hr⟩ : ∃ r, r = (decide (xes.length = b) && (body || xbo.isEmpty) && (other || xel.isEmpty) && (named || (xs.isEmpty && decide (xm = 0)))) := ⟨_, rfl⟩
  rw [← hr]
  have HRR := Lib.hid hr
  clear hrow hrow1 hrow2 hr
  by_cases h1 : xes.length = b
  · have th1 : ((xn : Int) == (b : Int)) = true := by rw [beq_iff_eq]; omega
    cases body with
    | true =>
      cases other with
      | true =>
        cases named with
        | true =>
          have e : r = true := by rw [HRR.out]; simp [h1]
          rw [e]
          clear e HRR h1
          go_enter Try.func91, Try.ntmps91
          go_wp2_with fail
          go_ret
          exact ⟨rfl, HBW.out⟩
        | false =>
          by_cases h4 : xs = []
          · have th4 : (bs xs).toList.isEmpty = true := bs_nil.2 h4
            by_cases h5 : xm = 0
            · have th5 : (xm == 0) = true := by rw [beq_iff_eq]; exact h5
              have e : r = true := by rw [HRR.out]; simp [h1, h4, h5]
              rw [e]
              clear e HRR h1 h4 h5
              go_enter Try.func91, Try.ntmps91
              go_wp2_with fail
              go_ret
              exact ⟨rfl, HBW.out⟩
            · have th5 : (xm == 0) = false := by rw [beq_eq_false_iff_ne]; exact h5
              have e : r = false := by rw [HRR.out]; simp [h1, h4, h5]
              rw [e]
              clear e HRR h1 h4 h5
              go_enter Try.func91, Try.ntmps91
              go_wp2_with fail
              go_ret
              exact ⟨rfl, HBW.out⟩
          · have th4 : (bs xs).toList.isEmpty = false := by rw [Bool.eq_false_iff]; exact fun e => h4 (bs_nil.1 e)
            have e : r = false := by rw [HRR.out]; simp [h1, h4]
            rw [e]
            clear e HRR h1 h4
            go_enter Try.func91, Try.ntmps91
            go_wp2_with fail
            go_ret
            exact ⟨rfl, HBW.out⟩

      | false =>
        by_cases h3 : xel = []
        · have th3 : ((xn2 : Int) == 0) = true := (len0 hn2).2 h3
          cases named with
          | true =>
            have e : r = true := by rw [HRR.out]; simp [h1, h3]
            rw [e]
            clear e HRR h1 h3
            go_enter Try.func91, Try.ntmps91
            go_wp2_with fail
            go_ret
            exact ⟨rfl, HBW.out⟩
          | false =>
            by_cases h4 : xs = []
            · have th4 : (bs xs).toList.isEmpty = true := bs_nil.2 h4
              by_cases h5 : xm = 0
              · have th5 : (xm == 0) = true := by rw [beq_iff_eq]; exact h5
                have e : r = true := by rw [HRR.out]; simp [h1, h3, h4, h5]
                rw [e]
                clear e HRR h1 h3 h4 h5
                go_enter Try.func91, Try.ntmps91
                go_wp2_with fail
                go_ret
                exact ⟨rfl, HBW.out⟩
              · have th5 : (xm == 0) = false := by rw [beq_eq_false_iff_ne]; exact h5
                have e : r = false := by rw [HRR.out]; simp [h1, h3, h4, h5]
                rw [e]
                clear e HRR h1 h3 h4 h5
                go_enter Try.func91, Try.ntmps91
                go_wp2_with fail
                go_ret
                exact ⟨rfl, HBW.out⟩
            · have th4 : (bs xs).toList.isEmpty = false := by rw [Bool.eq_false_iff]; exact fun e => h4 (bs_nil.1 e)
              have e : r = false := by rw [HRR.out]; simp [h1, h3, h4]
              rw [e]
              clear e HRR h1 h3 h4
              go_enter Try.func91, Try.ntmps91
              go_wp2_with fail
              go_ret
              exact ⟨rfl, HBW.out⟩

        · have th3 : ((xn2 : Int) == 0) = false := len0n hn2 h3
          have e : r = false := by rw [HRR.out]; simp [h1, h3]
          rw [e]
          clear e HRR h1 h3
          go_enter Try.func91, Try.ntmps91
          go_wp2_with fail
          go_ret
          exact ⟨rfl, HBW.out⟩

    | false =>
      by_cases h2 : xbo = []
      · have th2 : ((xn1 : Int) == 0) = true := (len0 hn1).2 h2
        cases other with
        | true =>
          cases named with
          | true =>
            have e : r = true := by rw [HRR.out]; simp [h1, h2]
            rw [e]
            clear e HRR h1 h2
            go_enter Try.func91, Try.ntmps91
            go_wp2_with fail
            go_ret
            exact ⟨rfl, HBW.out⟩
          | false =>
            by_cases h4 : xs = []
            · have th4 : (bs xs).toList.isEmpty = true := bs_nil.2 h4
              by_cases h5 : xm = 0
              · have th5 : (xm == 0) = true := by rw [beq_iff_eq]; exact h5
                have e : r = true := by rw [HRR.out]; simp [h1, h2, h4, h5]
                rw [e]
                clear e HRR h1 h2 h4 h5
                go_enter Try.func91, Try.ntmps91
                go_wp2_with fail
                go_ret
                exact ⟨rfl, HBW.out⟩
              · have th5 : (xm == 0) = false := by rw [beq_eq_false_iff_ne]; exact h5
                have e : r = false := by rw [HRR.out]; simp [h1, h2, h4, h5]
                rw [e]
                clear e HRR h1 h2 h4 h5
                go_enter Try.func91, Try.ntmps91
                go_wp2_with fail
                go_ret
                exact ⟨rfl, HBW.out⟩
            · have th4 : (bs xs).toList.isEmpty = false := by rw [Bool.eq_false_iff]; exact fun e => h4 (bs_nil.1 e)
              have e : r = false := by rw [HRR.out]; simp [h1, h2, h4]
              rw [e]
              clear e HRR h1 h2 h4
              go_enter Try.func91, Try.ntmps91
              go_wp2_with fail
              go_ret
              exact ⟨rfl, HBW.out⟩

        | false =>
          by_cases h3 : xel = []
          · have th3 : ((xn2 : Int) == 0) = true := (len0 hn2).2 h3
            cases named with
            | true =>
              have e : r = true := by rw [HRR.out]; simp [h1, h2, h3]
              rw [e]
              clear e HRR h1 h2 h3
              go_enter Try.func91, Try.ntmps91
              go_wp2_with fail
              go_ret
              exact ⟨rfl, HBW.out⟩
            | false =>
              by_cases h4 : xs = []
              · have th4 : (bs xs).toList.isEmpty = true := bs_nil.2 h4
                by_cases h5 : xm = 0
                · have th5 : (xm == 0) = true := by rw [beq_iff_eq]; exact h5
                  have e : r = true := by rw [HRR.out]; simp [h1, h2, h3, h4, h5]
                  rw [e]
                  clear e HRR h1 h2 h3 h4 h5
                  go_enter Try.func91, Try.ntmps91
                  go_wp2_with fail
                  go_ret
                  exact ⟨rfl, HBW.out⟩
                · have th5 : (xm == 0) = false := by rw [beq_eq_false_iff_ne]; exact h5
                  have e : r = false := by rw [HRR.out]; simp [h1, h2, h3, h4, h5]
                  rw [e]
                  clear e HRR h1 h2 h3 h4 h5
                  go_enter Try.func91, Try.ntmps91
                  go_wp2_with fail
                  go_ret
                  exact ⟨rfl, HBW.out⟩
              · have th4 : (bs xs).toList.isEmpty = false := by rw [Bool.eq_false_iff]; exact fun e => h4 (bs_nil.1 e)
                have e : r = false := by rw [HRR.out]; simp [h1, h2, h3, h4]
                rw [e]
                clear e HRR h1 h2 h3 h4
                go_enter Try.func91, Try.ntmps91
                go_wp2_with fail
                go_ret
                exact ⟨rfl, HBW.out⟩

          · have th3 : ((xn2 : Int) == 0) = false := len0n hn2 h3
            have e : r = false := by rw [HRR.out]; simp [h1, h2, h3]
            rw [e]
            clear e HRR h1 h2 h3
            go_enter Try.func91, Try.ntmps91
            go_wp2_with fail
            go_ret
            exact ⟨rfl, HBW.out⟩

      · have th2 : ((xn1 : Int) == 0) = false := len0n hn1 h2
        have e : r = false := by rw [HRR.out]; simp [h1, h2]
        rw [e]
        clear e HRR h1 h2
        go_enter Try.func91, Try.ntmps91
        go_wp2_with fail
        go_ret
        exact ⟨rfl, HBW.out⟩

  · have th1 : ((xn : Int) == (b : Int)) = false := by rw [beq_eq_false_iff_ne]; omega
    have e : r = false := by rw [HRR.out]; simp [h1]
    rw [e]
    clear e HRR h1
    go_enter Try.func91, Try.ntmps91
    go_wp2_with fail
    go_ret
    exact ⟨rfl, HBW.out⟩

set_option maxRecDepth 100000 in
set_option maxHeartbeats 6400000 in
theorem r10shape_any (e : SL) (w : World) (hrow : RowE w w.heap.size e.A e.n e.args) (hrow1 : RowS6 w w.heap.size e.A1 e.n1 e.body) (hrow2 : RowS6 w w.heap.size e.A2 e.n2 e.els) :
    Calls Try.prog 75 #[sVal e] w fun f w' => f = .returned (.tuple #[.bool (shapeS e).1, .bool (shapeS e).2]) ∧ Below w.heap.size w w' := by
  have hc : ∀ (b : Nat) (named body other : Bool) (W : World), Below w.heap.size w W → Calls Try.prog 91 #[sVal e, .bool named, .int .i64 b, .bool body, .bool other] W fun f w' => f = .returned (.bool (hasS e named b body other)) ∧ Below W.heap.size W w' := fun b named body other W hb =>
    r10has_any e b named body other W ((RowE.below hrow hb).more hb.size) ((RowS6.below hrow1 hb).more hb.size) ((RowS6.below hrow2 hb).more hb.size)
  have hn := hrow.1
  have hn9 := hrow.2.1
  obtain ⟨xk, xm, xs, xA, xn, xc', xes, xA1, xn1, xc1, xbo, xA2, xn2, xc2, xel⟩ := e
  change xes.length = xn at hn
  change (xn : Int) ≤ 9223372036854775807 at hn9
  have hc' : ∀ (b : Nat) (named body other : Bool) (W : World), Below w.heap.size w W → Calls Try.prog 91 #[.agg #[.int .i64 xk, .int .i64 xm, .string (bs xs), .slice xA xn xc', .slice xA1 xn1 xc1, .slice xA2 xn2 xc2], .bool named, .int .i64 b, .bool body, .bool other] W fun f w' => f = .returned (.bool (hasS (.mk xk xm xs xA xn xc' xes xA1 xn1 xc1 xbo xA2 xn2 xc2 xel) named b body other)) ∧ Below W.heap.size W w' := hc
  have HC := Lib.hid hc'
  obtain ⟨W, hW⟩ : ∃ W, W = w.alloc (.cells #[.int .i64 xk, .int .i64 xm, .string (bs xs), .slice xA xn xc', .slice xA1 xn1 xc1, .slice xA2 xn2 xc2] 48) := ⟨_, rfl⟩
  have HBW : Hid (Below w.heap.size w W) := Lib.hid (by rw [hW]; exact (Below.refl _ _).alloc (Nat.le_refl _) _)
  have HKA : Hid (Blk (w.alloc (.cells #[.int .i64 xk, .int .i64 xm, .string (bs xs), .slice xA xn xc', .slice xA1 xn1 xc1, .slice xA2 xn2 xc2] 48)) w.heap.size 48 #[.int .i64 xk, .int .i64 xm, .string (bs xs), .slice xA xn xc', .slice xA1 xn1 xc1, .slice xA2 xn2 xc2]) := Lib.hid (Blk.new _ _ _)
  have HK : Hid (Blk W w.heap.size 48 #[.int .i64 xk, .int .i64 xm, .string (bs xs), .slice xA xn xc', .slice xA1 xn1 xc1, .slice xA2 xn2 xc2]) := Lib.hid (by rw [hW]; exact HKA.out)
  show Calls Try.prog _ #[.agg #[.int .i64 xk, .int .i64 xm, .string (bs xs), .slice xA xn xc', .slice xA1 xn1 xc1, .slice xA2 xn2 xc2]] w _
  clear hc hc' hrow hrow1 hrow2
  by_cases h1 : xk = 1
  · subst h1
    obtain ⟨q, hq⟩ : ∃ q, q = (hasS (.mk 1 xm xs xA xn xc' xes xA1 xn1 xc1 xbo xA2 xn2 xc2 xel) false xes.length false false && (decide (1 ≤ xes.length) && decide (xes.length ≤ 8))) := ⟨_, rfl⟩
    have e1 : shapeS (.mk 1 xm xs xA xn xc' xes xA1 xn1 xc1 xbo xA2 xn2 xc2 xel) = (q, false) := by rw [hq]; unfold shapeS; exact if_pos rfl
    have HQ := Lib.hid hq
    rw [e1]
    clear e1 hq
    obtain ⟨a, ha⟩ : ∃ a, a = hasS (.mk 1 xm xs xA xn xc' xes xA1 xn1 xc1 xbo xA2 xn2 xc2 xel) false xn false false := ⟨_, rfl⟩
    have HAA := Lib.hid ha
    obtain ⟨z, hz⟩ : ∃ z, z = amongB (xn : Int) 1 8 := ⟨_, rfl⟩
    have HF : Hid (q = (a && z)) := Lib.hid (by
      have h1 : z = (decide (1 ≤ xn) && decide (xn ≤ 8)) := by rw [hz]; unfold amongB; congr 1 <;> exact decide_eq_decide.2 (by omega)
      rw [HQ.out, hn, ← ha, h1])
    have HZ := Lib.hid hz
    clear ha hz
    rw [HF.out]
    go_enter Try.func75, Try.ntmps75
    go_wp2_with (refine wpList_load_row rfl 48 _ rfl w.heap.size rfl 48 #[.int .i64 1, .int .i64 xm, .string (bs xs), .slice xA xn xc', .slice xA1 xn1 xc1, .slice xA2 xn2 xc2] (0, 0) _ HKA.out Try.underlying48 rfl stmt_size ?_)
    rw [← hW]
    refine (HC.out xn false false false W HBW.out).mono ?_
    rintro f w2 ⟨rfl, hb2⟩
    have HB2 := Lib.hid (HBW.out.trans (hb2.mono HBW.out.size))
    have k3 : w2.cell? ⟨w.heap.size, 3, none⟩ = some (.slice xA xn xc') := (HK.out.below hb2 HK.out.lt).cell 3
    rw [← HAA.out]
    clear hb2
    cases a with
    | false =>
      go_wp2_with fail
      go_ret2
      exact ⟨rfl, HB2.out⟩
    | true =>
      go_wp2_with fail
      refine (r10among_any w2 xn 1 8).mono ?_
      rintro f w3 ⟨rfl, rfl⟩
      rw [← HZ.out]
      go_wp2_with fail
      go_ret2
      exact ⟨rfl, HB2.out⟩
  by_cases h2 : xk = 2
  · subst h2
    obtain ⟨q, hq⟩ : ∃ q, q = hasS (.mk 2 xm xs xA xn xc' xes xA1 xn1 xc1 xbo xA2 xn2 xc2 xel) true 1 false false := ⟨_, rfl⟩
    have e1 : shapeS (.mk 2 xm xs xA xn xc' xes xA1 xn1 xc1 xbo xA2 xn2 xc2 xel) = (q, true) := by rw [hq]; unfold shapeS; simp [SL.kind]
    have HQ := Lib.hid hq
    rw [e1]
    clear e1 hq
    go_enter Try.func75, Try.ntmps75
    go_wp2_with (refine wpList_load_row rfl 48 _ rfl w.heap.size rfl 48 #[.int .i64 2, .int .i64 xm, .string (bs xs), .slice xA xn xc', .slice xA1 xn1 xc1, .slice xA2 xn2 xc2] (0, 0) _ HKA.out Try.underlying48 rfl stmt_size ?_)
    rw [← hW]
    refine (HC.out 1 true false false W HBW.out).mono ?_
    rintro f w2 ⟨rfl, hb2⟩
    rw [← HQ.out]
    go_wp2_with fail
    go_ret2
    exact ⟨rfl, HBW.out.trans (hb2.mono HBW.out.size)⟩
  by_cases h3 : xk = 3
  · subst h3
    obtain ⟨q, hq⟩ : ∃ q, q = hasS (.mk 3 xm xs xA xn xc' xes xA1 xn1 xc1 xbo xA2 xn2 xc2 xel) true 1 false false := ⟨_, rfl⟩
    have e1 : shapeS (.mk 3 xm xs xA xn xc' xes xA1 xn1 xc1 xbo xA2 xn2 xc2 xel) = (q, true) := by rw [hq]; unfold shapeS; simp [SL.kind]
    have HQ := Lib.hid hq
    rw [e1]
    clear e1 hq
    go_enter Try.func75, Try.ntmps75
    go_wp2_with (refine wpList_load_row rfl 48 _ rfl w.heap.size rfl 48 #[.int .i64 3, .int .i64 xm, .string (bs xs), .slice xA xn xc', .slice xA1 xn1 xc1, .slice xA2 xn2 xc2] (0, 0) _ HKA.out Try.underlying48 rfl stmt_size ?_)
    rw [← hW]
    refine (HC.out 1 true false false W HBW.out).mono ?_
    rintro f w2 ⟨rfl, hb2⟩
    rw [← HQ.out]
    go_wp2_with fail
    go_ret2
    exact ⟨rfl, HBW.out.trans (hb2.mono HBW.out.size)⟩
  by_cases h5 : xk = 5
  · subst h5
    obtain ⟨q, hq⟩ : ∃ q, q = hasS (.mk 5 xm xs xA xn xc' xes xA1 xn1 xc1 xbo xA2 xn2 xc2 xel) true 1 false false := ⟨_, rfl⟩
    have e1 : shapeS (.mk 5 xm xs xA xn xc' xes xA1 xn1 xc1 xbo xA2 xn2 xc2 xel) = (q, true) := by rw [hq]; unfold shapeS; simp [SL.kind]
    have HQ := Lib.hid hq
    rw [e1]
    clear e1 hq
    go_enter Try.func75, Try.ntmps75
    go_wp2_with (refine wpList_load_row rfl 48 _ rfl w.heap.size rfl 48 #[.int .i64 5, .int .i64 xm, .string (bs xs), .slice xA xn xc', .slice xA1 xn1 xc1, .slice xA2 xn2 xc2] (0, 0) _ HKA.out Try.underlying48 rfl stmt_size ?_)
    rw [← hW]
    refine (HC.out 1 true false false W HBW.out).mono ?_
    rintro f w2 ⟨rfl, hb2⟩
    rw [← HQ.out]
    go_wp2_with fail
    go_ret2
    exact ⟨rfl, HBW.out.trans (hb2.mono HBW.out.size)⟩
  by_cases h6 : xk = 6
  · subst h6
    obtain ⟨q, hq⟩ : ∃ q, q = hasS (.mk 6 xm xs xA xn xc' xes xA1 xn1 xc1 xbo xA2 xn2 xc2 xel) true 1 false false := ⟨_, rfl⟩
    have e1 : shapeS (.mk 6 xm xs xA xn xc' xes xA1 xn1 xc1 xbo xA2 xn2 xc2 xel) = (q, true) := by rw [hq]; unfold shapeS; simp [SL.kind]
    have HQ := Lib.hid hq
    rw [e1]
    clear e1 hq
    go_enter Try.func75, Try.ntmps75
    go_wp2_with (refine wpList_load_row rfl 48 _ rfl w.heap.size rfl 48 #[.int .i64 6, .int .i64 xm, .string (bs xs), .slice xA xn xc', .slice xA1 xn1 xc1, .slice xA2 xn2 xc2] (0, 0) _ HKA.out Try.underlying48 rfl stmt_size ?_)
    rw [← hW]
    refine (HC.out 1 true false false W HBW.out).mono ?_
    rintro f w2 ⟨rfl, hb2⟩
    rw [← HQ.out]
    go_wp2_with fail
    go_ret2
    exact ⟨rfl, HBW.out.trans (hb2.mono HBW.out.size)⟩
  by_cases h17 : xk = 17
  · subst h17
    obtain ⟨q, hq⟩ : ∃ q, q = hasS (.mk 17 xm xs xA xn xc' xes xA1 xn1 xc1 xbo xA2 xn2 xc2 xel) true 1 false false := ⟨_, rfl⟩
    have e1 : shapeS (.mk 17 xm xs xA xn xc' xes xA1 xn1 xc1 xbo xA2 xn2 xc2 xel) = (q, true) := by rw [hq]; unfold shapeS; simp [SL.kind]
    have HQ := Lib.hid hq
    rw [e1]
    clear e1 hq
    go_enter Try.func75, Try.ntmps75
    go_wp2_with (refine wpList_load_row rfl 48 _ rfl w.heap.size rfl 48 #[.int .i64 17, .int .i64 xm, .string (bs xs), .slice xA xn xc', .slice xA1 xn1 xc1, .slice xA2 xn2 xc2] (0, 0) _ HKA.out Try.underlying48 rfl stmt_size ?_)
    rw [← hW]
    refine (HC.out 1 true false false W HBW.out).mono ?_
    rintro f w2 ⟨rfl, hb2⟩
    rw [← HQ.out]
    go_wp2_with fail
    go_ret2
    exact ⟨rfl, HBW.out.trans (hb2.mono HBW.out.size)⟩
  by_cases h23 : xk = 23
  · subst h23
    obtain ⟨q, hq⟩ : ∃ q, q = hasS (.mk 23 xm xs xA xn xc' xes xA1 xn1 xc1 xbo xA2 xn2 xc2 xel) true 1 false false := ⟨_, rfl⟩
    have e1 : shapeS (.mk 23 xm xs xA xn xc' xes xA1 xn1 xc1 xbo xA2 xn2 xc2 xel) = (q, true) := by rw [hq]; unfold shapeS; simp [SL.kind]
    have HQ := Lib.hid hq
    rw [e1]
    clear e1 hq
    go_enter Try.func75, Try.ntmps75
    go_wp2_with (refine wpList_load_row rfl 48 _ rfl w.heap.size rfl 48 #[.int .i64 23, .int .i64 xm, .string (bs xs), .slice xA xn xc', .slice xA1 xn1 xc1, .slice xA2 xn2 xc2] (0, 0) _ HKA.out Try.underlying48 rfl stmt_size ?_)
    rw [← hW]
    refine (HC.out 1 true false false W HBW.out).mono ?_
    rintro f w2 ⟨rfl, hb2⟩
    rw [← HQ.out]
    go_wp2_with fail
    go_ret2
    exact ⟨rfl, HBW.out.trans (hb2.mono HBW.out.size)⟩
  by_cases h4 : xk = 4
  · subst h4
    obtain ⟨q, hq⟩ : ∃ q, q = hasS (.mk 4 xm xs xA xn xc' xes xA1 xn1 xc1 xbo xA2 xn2 xc2 xel) true 2 false false := ⟨_, rfl⟩
    have e1 : shapeS (.mk 4 xm xs xA xn xc' xes xA1 xn1 xc1 xbo xA2 xn2 xc2 xel) = (q, true) := by rw [hq]; unfold shapeS; simp [SL.kind]
    have HQ := Lib.hid hq
    rw [e1]
    clear e1 hq
    go_enter Try.func75, Try.ntmps75
    go_wp2_with (refine wpList_load_row rfl 48 _ rfl w.heap.size rfl 48 #[.int .i64 4, .int .i64 xm, .string (bs xs), .slice xA xn xc', .slice xA1 xn1 xc1, .slice xA2 xn2 xc2] (0, 0) _ HKA.out Try.underlying48 rfl stmt_size ?_)
    rw [← hW]
    refine (HC.out 2 true false false W HBW.out).mono ?_
    rintro f w2 ⟨rfl, hb2⟩
    rw [← HQ.out]
    go_wp2_with fail
    go_ret2
    exact ⟨rfl, HBW.out.trans (hb2.mono HBW.out.size)⟩
  by_cases h7 : xk = 7
  · subst h7
    obtain ⟨q, hq⟩ : ∃ q, q = hasS (.mk 7 xm xs xA xn xc' xes xA1 xn1 xc1 xbo xA2 xn2 xc2 xel) false 2 false false := ⟨_, rfl⟩
    have e1 : shapeS (.mk 7 xm xs xA xn xc' xes xA1 xn1 xc1 xbo xA2 xn2 xc2 xel) = (q, false) := by rw [hq]; unfold shapeS; simp [SL.kind]
    have HQ := Lib.hid hq
    rw [e1]
    clear e1 hq
    go_enter Try.func75, Try.ntmps75
    go_wp2_with (refine wpList_load_row rfl 48 _ rfl w.heap.size rfl 48 #[.int .i64 7, .int .i64 xm, .string (bs xs), .slice xA xn xc', .slice xA1 xn1 xc1, .slice xA2 xn2 xc2] (0, 0) _ HKA.out Try.underlying48 rfl stmt_size ?_)
    rw [← hW]
    refine (HC.out 2 false false false W HBW.out).mono ?_
    rintro f w2 ⟨rfl, hb2⟩
    rw [← HQ.out]
    go_wp2_with fail
    go_ret2
    exact ⟨rfl, HBW.out.trans (hb2.mono HBW.out.size)⟩
  by_cases h8 : xk = 8
  · subst h8
    obtain ⟨q, hq⟩ : ∃ q, q = hasS (.mk 8 xm xs xA xn xc' xes xA1 xn1 xc1 xbo xA2 xn2 xc2 xel) false 1 false false := ⟨_, rfl⟩
    have e1 : shapeS (.mk 8 xm xs xA xn xc' xes xA1 xn1 xc1 xbo xA2 xn2 xc2 xel) = (q, false) := by rw [hq]; unfold shapeS; simp [SL.kind]
    have HQ := Lib.hid hq
    rw [e1]
    clear e1 hq
    go_enter Try.func75, Try.ntmps75
    go_wp2_with (refine wpList_load_row rfl 48 _ rfl w.heap.size rfl 48 #[.int .i64 8, .int .i64 xm, .string (bs xs), .slice xA xn xc', .slice xA1 xn1 xc1, .slice xA2 xn2 xc2] (0, 0) _ HKA.out Try.underlying48 rfl stmt_size ?_)
    rw [← hW]
    refine (HC.out 1 false false false W HBW.out).mono ?_
    rintro f w2 ⟨rfl, hb2⟩
    rw [← HQ.out]
    go_wp2_with fail
    go_ret2
    exact ⟨rfl, HBW.out.trans (hb2.mono HBW.out.size)⟩
  by_cases h12 : xk = 12
  · subst h12
    obtain ⟨q, hq⟩ : ∃ q, q = hasS (.mk 12 xm xs xA xn xc' xes xA1 xn1 xc1 xbo xA2 xn2 xc2 xel) false 1 false false := ⟨_, rfl⟩
    have e1 : shapeS (.mk 12 xm xs xA xn xc' xes xA1 xn1 xc1 xbo xA2 xn2 xc2 xel) = (q, false) := by rw [hq]; unfold shapeS; simp [SL.kind]
    have HQ := Lib.hid hq
    rw [e1]
    clear e1 hq
    go_enter Try.func75, Try.ntmps75
    go_wp2_with (refine wpList_load_row rfl 48 _ rfl w.heap.size rfl 48 #[.int .i64 12, .int .i64 xm, .string (bs xs), .slice xA xn xc', .slice xA1 xn1 xc1, .slice xA2 xn2 xc2] (0, 0) _ HKA.out Try.underlying48 rfl stmt_size ?_)
    rw [← hW]
    refine (HC.out 1 false false false W HBW.out).mono ?_
    rintro f w2 ⟨rfl, hb2⟩
    rw [← HQ.out]
    go_wp2_with fail
    go_ret2
    exact ⟨rfl, HBW.out.trans (hb2.mono HBW.out.size)⟩
  by_cases h16 : xk = 16
  · subst h16
    obtain ⟨q, hq⟩ : ∃ q, q = hasS (.mk 16 xm xs xA xn xc' xes xA1 xn1 xc1 xbo xA2 xn2 xc2 xel) false 1 false false := ⟨_, rfl⟩
    have e1 : shapeS (.mk 16 xm xs xA xn xc' xes xA1 xn1 xc1 xbo xA2 xn2 xc2 xel) = (q, false) := by rw [hq]; unfold shapeS; simp [SL.kind]
    have HQ := Lib.hid hq
    rw [e1]
    clear e1 hq
    go_enter Try.func75, Try.ntmps75
    go_wp2_with (refine wpList_load_row rfl 48 _ rfl w.heap.size rfl 48 #[.int .i64 16, .int .i64 xm, .string (bs xs), .slice xA xn xc', .slice xA1 xn1 xc1, .slice xA2 xn2 xc2] (0, 0) _ HKA.out Try.underlying48 rfl stmt_size ?_)
    rw [← hW]
    refine (HC.out 1 false false false W HBW.out).mono ?_
    rintro f w2 ⟨rfl, hb2⟩
    rw [← HQ.out]
    go_wp2_with fail
    go_ret2
    exact ⟨rfl, HBW.out.trans (hb2.mono HBW.out.size)⟩
  by_cases h20 : xk = 20
  · subst h20
    obtain ⟨q, hq⟩ : ∃ q, q = hasS (.mk 20 xm xs xA xn xc' xes xA1 xn1 xc1 xbo xA2 xn2 xc2 xel) false 1 false false := ⟨_, rfl⟩
    have e1 : shapeS (.mk 20 xm xs xA xn xc' xes xA1 xn1 xc1 xbo xA2 xn2 xc2 xel) = (q, false) := by rw [hq]; unfold shapeS; simp [SL.kind]
    have HQ := Lib.hid hq
    rw [e1]
    clear e1 hq
    go_enter Try.func75, Try.ntmps75
    go_wp2_with (refine wpList_load_row rfl 48 _ rfl w.heap.size rfl 48 #[.int .i64 20, .int .i64 xm, .string (bs xs), .slice xA xn xc', .slice xA1 xn1 xc1, .slice xA2 xn2 xc2] (0, 0) _ HKA.out Try.underlying48 rfl stmt_size ?_)
    rw [← hW]
    refine (HC.out 1 false false false W HBW.out).mono ?_
    rintro f w2 ⟨rfl, hb2⟩
    rw [← HQ.out]
    go_wp2_with fail
    go_ret2
    exact ⟨rfl, HBW.out.trans (hb2.mono HBW.out.size)⟩
  by_cases h22 : xk = 22
  · subst h22
    obtain ⟨q, hq⟩ : ∃ q, q = hasS (.mk 22 xm xs xA xn xc' xes xA1 xn1 xc1 xbo xA2 xn2 xc2 xel) false 1 false false := ⟨_, rfl⟩
    have e1 : shapeS (.mk 22 xm xs xA xn xc' xes xA1 xn1 xc1 xbo xA2 xn2 xc2 xel) = (q, false) := by rw [hq]; unfold shapeS; simp [SL.kind]
    have HQ := Lib.hid hq
    rw [e1]
    clear e1 hq
    go_enter Try.func75, Try.ntmps75
    go_wp2_with (refine wpList_load_row rfl 48 _ rfl w.heap.size rfl 48 #[.int .i64 22, .int .i64 xm, .string (bs xs), .slice xA xn xc', .slice xA1 xn1 xc1, .slice xA2 xn2 xc2] (0, 0) _ HKA.out Try.underlying48 rfl stmt_size ?_)
    rw [← hW]
    refine (HC.out 1 false false false W HBW.out).mono ?_
    rintro f w2 ⟨rfl, hb2⟩
    rw [← HQ.out]
    go_wp2_with fail
    go_ret2
    exact ⟨rfl, HBW.out.trans (hb2.mono HBW.out.size)⟩
  by_cases h19 : xk = 19
  · subst h19
    obtain ⟨q, hq⟩ : ∃ q, q = hasS (.mk 19 xm xs xA xn xc' xes xA1 xn1 xc1 xbo xA2 xn2 xc2 xel) false 1 false false := ⟨_, rfl⟩
    have e1 : shapeS (.mk 19 xm xs xA xn xc' xes xA1 xn1 xc1 xbo xA2 xn2 xc2 xel) = (q, false) := by rw [hq]; unfold shapeS; simp [SL.kind]
    have HQ := Lib.hid hq
    rw [e1]
    clear e1 hq
    go_enter Try.func75, Try.ntmps75
    go_wp2_with (refine wpList_load_row rfl 48 _ rfl w.heap.size rfl 48 #[.int .i64 19, .int .i64 xm, .string (bs xs), .slice xA xn xc', .slice xA1 xn1 xc1, .slice xA2 xn2 xc2] (0, 0) _ HKA.out Try.underlying48 rfl stmt_size ?_)
    rw [← hW]
    refine (HC.out 1 false false false W HBW.out).mono ?_
    rintro f w2 ⟨rfl, hb2⟩
    rw [← HQ.out]
    go_wp2_with fail
    go_ret2
    exact ⟨rfl, HBW.out.trans (hb2.mono HBW.out.size)⟩
  by_cases h9 : xk = 9
  · subst h9
    obtain ⟨q, hq⟩ : ∃ q, q = hasS (.mk 9 xm xs xA xn xc' xes xA1 xn1 xc1 xbo xA2 xn2 xc2 xel) false 1 true true := ⟨_, rfl⟩
    have e1 : shapeS (.mk 9 xm xs xA xn xc' xes xA1 xn1 xc1 xbo xA2 xn2 xc2 xel) = (q, false) := by rw [hq]; unfold shapeS; simp [SL.kind]
    have HQ := Lib.hid hq
    rw [e1]
    clear e1 hq
    go_enter Try.func75, Try.ntmps75
    go_wp2_with (refine wpList_load_row rfl 48 _ rfl w.heap.size rfl 48 #[.int .i64 9, .int .i64 xm, .string (bs xs), .slice xA xn xc', .slice xA1 xn1 xc1, .slice xA2 xn2 xc2] (0, 0) _ HKA.out Try.underlying48 rfl stmt_size ?_)
    rw [← hW]
    refine (HC.out 1 false true true W HBW.out).mono ?_
    rintro f w2 ⟨rfl, hb2⟩
    rw [← HQ.out]
    go_wp2_with fail
    go_ret2
    exact ⟨rfl, HBW.out.trans (hb2.mono HBW.out.size)⟩
  by_cases h10 : xk = 10
  · subst h10
    obtain ⟨q, hq⟩ : ∃ q, q = hasS (.mk 10 xm xs xA xn xc' xes xA1 xn1 xc1 xbo xA2 xn2 xc2 xel) false 1 true false := ⟨_, rfl⟩
    have e1 : shapeS (.mk 10 xm xs xA xn xc' xes xA1 xn1 xc1 xbo xA2 xn2 xc2 xel) = (q, false) := by rw [hq]; unfold shapeS; simp [SL.kind]
    have HQ := Lib.hid hq
    rw [e1]
    clear e1 hq
    go_enter Try.func75, Try.ntmps75
    go_wp2_with (refine wpList_load_row rfl 48 _ rfl w.heap.size rfl 48 #[.int .i64 10, .int .i64 xm, .string (bs xs), .slice xA xn xc', .slice xA1 xn1 xc1, .slice xA2 xn2 xc2] (0, 0) _ HKA.out Try.underlying48 rfl stmt_size ?_)
    rw [← hW]
    refine (HC.out 1 false true false W HBW.out).mono ?_
    rintro f w2 ⟨rfl, hb2⟩
    rw [← HQ.out]
    go_wp2_with fail
    go_ret2
    exact ⟨rfl, HBW.out.trans (hb2.mono HBW.out.size)⟩
  by_cases h11 : xk = 11
  · subst h11
    obtain ⟨q, hq⟩ : ∃ q, q = hasS (.mk 11 xm xs xA xn xc' xes xA1 xn1 xc1 xbo xA2 xn2 xc2 xel) true 1 true false := ⟨_, rfl⟩
    have e1 : shapeS (.mk 11 xm xs xA xn xc' xes xA1 xn1 xc1 xbo xA2 xn2 xc2 xel) = (q, true) := by rw [hq]; unfold shapeS; simp [SL.kind]
    have HQ := Lib.hid hq
    rw [e1]
    clear e1 hq
    go_enter Try.func75, Try.ntmps75
    go_wp2_with (refine wpList_load_row rfl 48 _ rfl w.heap.size rfl 48 #[.int .i64 11, .int .i64 xm, .string (bs xs), .slice xA xn xc', .slice xA1 xn1 xc1, .slice xA2 xn2 xc2] (0, 0) _ HKA.out Try.underlying48 rfl stmt_size ?_)
    rw [← hW]
    refine (HC.out 1 true true false W HBW.out).mono ?_
    rintro f w2 ⟨rfl, hb2⟩
    rw [← HQ.out]
    go_wp2_with fail
    go_ret2
    exact ⟨rfl, HBW.out.trans (hb2.mono HBW.out.size)⟩
  by_cases h18 : xk = 18
  · subst h18
    obtain ⟨q, hq⟩ : ∃ q, q = hasS (.mk 18 xm xs xA xn xc' xes xA1 xn1 xc1 xbo xA2 xn2 xc2 xel) true 0 false false := ⟨_, rfl⟩
    have e1 : shapeS (.mk 18 xm xs xA xn xc' xes xA1 xn1 xc1 xbo xA2 xn2 xc2 xel) = (q, true) := by rw [hq]; unfold shapeS; simp [SL.kind]
    have HQ := Lib.hid hq
    rw [e1]
    clear e1 hq
    go_enter Try.func75, Try.ntmps75
    go_wp2_with (refine wpList_load_row rfl 48 _ rfl w.heap.size rfl 48 #[.int .i64 18, .int .i64 xm, .string (bs xs), .slice xA xn xc', .slice xA1 xn1 xc1, .slice xA2 xn2 xc2] (0, 0) _ HKA.out Try.underlying48 rfl stmt_size ?_)
    rw [← hW]
    refine (HC.out 0 true false false W HBW.out).mono ?_
    rintro f w2 ⟨rfl, hb2⟩
    rw [← HQ.out]
    go_wp2_with fail
    go_ret2
    exact ⟨rfl, HBW.out.trans (hb2.mono HBW.out.size)⟩
  by_cases h13 : xk = 13
  · subst h13
    obtain ⟨q, hq⟩ : ∃ q, q = hasS (.mk 13 xm xs xA xn xc' xes xA1 xn1 xc1 xbo xA2 xn2 xc2 xel) false 0 false false := ⟨_, rfl⟩
    have e1 : shapeS (.mk 13 xm xs xA xn xc' xes xA1 xn1 xc1 xbo xA2 xn2 xc2 xel) = (q, false) := by rw [hq]; unfold shapeS; simp [SL.kind]
    have HQ := Lib.hid hq
    rw [e1]
    clear e1 hq
    go_enter Try.func75, Try.ntmps75
    go_wp2_with (refine wpList_load_row rfl 48 _ rfl w.heap.size rfl 48 #[.int .i64 13, .int .i64 xm, .string (bs xs), .slice xA xn xc', .slice xA1 xn1 xc1, .slice xA2 xn2 xc2] (0, 0) _ HKA.out Try.underlying48 rfl stmt_size ?_)
    rw [← hW]
    refine (HC.out 0 false false false W HBW.out).mono ?_
    rintro f w2 ⟨rfl, hb2⟩
    rw [← HQ.out]
    go_wp2_with fail
    go_ret2
    exact ⟨rfl, HBW.out.trans (hb2.mono HBW.out.size)⟩
  by_cases h14 : xk = 14
  · subst h14
    obtain ⟨q, hq⟩ : ∃ q, q = hasS (.mk 14 xm xs xA xn xc' xes xA1 xn1 xc1 xbo xA2 xn2 xc2 xel) false 0 false false := ⟨_, rfl⟩
    have e1 : shapeS (.mk 14 xm xs xA xn xc' xes xA1 xn1 xc1 xbo xA2 xn2 xc2 xel) = (q, false) := by rw [hq]; unfold shapeS; simp [SL.kind]
    have HQ := Lib.hid hq
    rw [e1]
    clear e1 hq
    go_enter Try.func75, Try.ntmps75
    go_wp2_with (refine wpList_load_row rfl 48 _ rfl w.heap.size rfl 48 #[.int .i64 14, .int .i64 xm, .string (bs xs), .slice xA xn xc', .slice xA1 xn1 xc1, .slice xA2 xn2 xc2] (0, 0) _ HKA.out Try.underlying48 rfl stmt_size ?_)
    rw [← hW]
    refine (HC.out 0 false false false W HBW.out).mono ?_
    rintro f w2 ⟨rfl, hb2⟩
    rw [← HQ.out]
    go_wp2_with fail
    go_ret2
    exact ⟨rfl, HBW.out.trans (hb2.mono HBW.out.size)⟩
  by_cases h15 : xk = 15
  · subst h15
    obtain ⟨q, hq⟩ : ∃ q, q = hasS (.mk 15 xm xs xA xn xc' xes xA1 xn1 xc1 xbo xA2 xn2 xc2 xel) false 0 false false := ⟨_, rfl⟩
    have e1 : shapeS (.mk 15 xm xs xA xn xc' xes xA1 xn1 xc1 xbo xA2 xn2 xc2 xel) = (q, false) := by rw [hq]; unfold shapeS; simp [SL.kind]
    have HQ := Lib.hid hq
    rw [e1]
    clear e1 hq
    go_enter Try.func75, Try.ntmps75
    go_wp2_with (refine wpList_load_row rfl 48 _ rfl w.heap.size rfl 48 #[.int .i64 15, .int .i64 xm, .string (bs xs), .slice xA xn xc', .slice xA1 xn1 xc1, .slice xA2 xn2 xc2] (0, 0) _ HKA.out Try.underlying48 rfl stmt_size ?_)
    rw [← hW]
    refine (HC.out 0 false false false W HBW.out).mono ?_
    rintro f w2 ⟨rfl, hb2⟩
    rw [← HQ.out]
    go_wp2_with fail
    go_ret2
    exact ⟨rfl, HBW.out.trans (hb2.mono HBW.out.size)⟩
  by_cases h21 : xk = 21
  · subst h21
    obtain ⟨q, hq⟩ : ∃ q, q = hasS (.mk 21 xm xs xA xn xc' xes xA1 xn1 xc1 xbo xA2 xn2 xc2 xel) false 0 false false := ⟨_, rfl⟩
    have e1 : shapeS (.mk 21 xm xs xA xn xc' xes xA1 xn1 xc1 xbo xA2 xn2 xc2 xel) = (q, false) := by rw [hq]; unfold shapeS; simp [SL.kind]
    have HQ := Lib.hid hq
    rw [e1]
    clear e1 hq
    go_enter Try.func75, Try.ntmps75
    go_wp2_with (refine wpList_load_row rfl 48 _ rfl w.heap.size rfl 48 #[.int .i64 21, .int .i64 xm, .string (bs xs), .slice xA xn xc', .slice xA1 xn1 xc1, .slice xA2 xn2 xc2] (0, 0) _ HKA.out Try.underlying48 rfl stmt_size ?_)
    rw [← hW]
    refine (HC.out 0 false false false W HBW.out).mono ?_
    rintro f w2 ⟨rfl, hb2⟩
    rw [← HQ.out]
    go_wp2_with fail
    go_ret2
    exact ⟨rfl, HBW.out.trans (hb2.mono HBW.out.size)⟩
  have e1 : shapeS (.mk xk xm xs xA xn xc' xes xA1 xn1 xc1 xbo xA2 xn2 xc2 xel) = (false, false) := by unfold shapeS; simp [SL.kind, h1, h2, h3, h5, h6, h17, h23, h4, h7, h8, h12, h16, h20, h22, h19, h9, h10, h11, h18, h13, h14, h15, h21]
  have t1 : (xk == 1) = false := by rw [beq_eq_false_iff_ne]; exact h1
  have t2 : (xk == 2) = false := by rw [beq_eq_false_iff_ne]; exact h2
  have t3 : (xk == 3) = false := by rw [beq_eq_false_iff_ne]; exact h3
  have t5 : (xk == 5) = false := by rw [beq_eq_false_iff_ne]; exact h5
  have t6 : (xk == 6) = false := by rw [beq_eq_false_iff_ne]; exact h6
  have t17 : (xk == 17) = false := by rw [beq_eq_false_iff_ne]; exact h17
  have t23 : (xk == 23) = false := by rw [beq_eq_false_iff_ne]; exact h23
  have t4 : (xk == 4) = false := by rw [beq_eq_false_iff_ne]; exact h4
  have t7 : (xk == 7) = false := by rw [beq_eq_false_iff_ne]; exact h7
  have t8 : (xk == 8) = false := by rw [beq_eq_false_iff_ne]; exact h8
  have t12 : (xk == 12) = false := by rw [beq_eq_false_iff_ne]; exact h12
  have t16 : (xk == 16) = false := by rw [beq_eq_false_iff_ne]; exact h16
  have t20 : (xk == 20) = false := by rw [beq_eq_false_iff_ne]; exact h20
  have t22 : (xk == 22) = false := by rw [beq_eq_false_iff_ne]; exact h22
  have t19 : (xk == 19) = false := by rw [beq_eq_false_iff_ne]; exact h19
  have t9 : (xk == 9) = false := by rw [beq_eq_false_iff_ne]; exact h9
  have t10 : (xk == 10) = false := by rw [beq_eq_false_iff_ne]; exact h10
  have t11 : (xk == 11) = false := by rw [beq_eq_false_iff_ne]; exact h11
  have t18 : (xk == 18) = false := by rw [beq_eq_false_iff_ne]; exact h18
  have t13 : (xk == 13) = false := by rw [beq_eq_false_iff_ne]; exact h13
  have t14 : (xk == 14) = false := by rw [beq_eq_false_iff_ne]; exact h14
  have t15 : (xk == 15) = false := by rw [beq_eq_false_iff_ne]; exact h15
  have t21 : (xk == 21) = false := by rw [beq_eq_false_iff_ne]; exact h21
  rw [e1]
  clear e1 h1 h2 h3 h5 h6 h17 h23 h4 h7 h8 h12 h16 h20 h22 h19 h9 h10 h11 h18 h13 h14 h15 h21
  go_enter Try.func75, Try.ntmps75
  go_wp2_with fail
  go_ret2
  exact ⟨rfl, by have := HBW.out; rwa [hW] at this⟩

end

section
open Go.RowKit
set_option linter.unusedSimpArgs false

theorem rightSs_all (nm : List UInt8 → Bool) : ∀ l : List SL, rightSs nm l = l.all (rightS nm) := by
  intro l
  induction l with
  | nil => unfold rightSs; rfl
  | cons x r ih => rw [rightSs_cons, ih, List.all_cons]
theorem all_no {α : Type} {p : α → Bool} {l : List α} {j : Nat} {d : α} (hj : j < l.length) (h : p (l[j]?.getD d) = false) : l.all p = false := by
  rw [Bool.eq_false_iff]
  intro e
  rw [List.all_eq_true] at e
  rw [List.getElem?_eq_getElem hj, Option.getD_some, e _ (List.getElem_mem hj)] at h
  cases h
theorem all_yes {α : Type} {p : α → Bool} {l : List α} {d : α} (h : ∀ j, j < l.length → p (l[j]?.getD d) = true) : l.all p = true := by
  rw [List.all_eq_true]
  intro x hx
  obtain ⟨j, hj, rfl⟩ := List.getElem_of_mem hx
  have := h j hj
  rwa [List.getElem?_eq_getElem hj] at this

theorem addr_zero (a : Addr) : a.add 0 = a := by unfold Addr.add; rw [if_pos rfl]

/-- what a statement needs, but its Args and its lists -/
def headS (nm : List UInt8 → Bool) (s : SL) : Bool := (shapeS s).1 && decide (s.num = 0) && decide (s.kind ≠ 23) && (!(shapeS s).2 || nm s.name) && (decide (s.kind ≠ 19) || decide ((s.args[0]?.getD nilE).kind = 9))
theorem rightS_head (nm : List UInt8 → Bool) (s : SL) : rightS nm s = (headS nm s && s.args.all (rightE nm (decide (s.kind = 1))) && rightBl nm s.body && rightBl nm s.els) := by
  rw [rightS_eq]
  unfold okS headS rightBl
  rfl
theorem shape_call {s : SL} (h : (shapeS s).1 = true) (hk : s.kind = 19) : s.args.length = 1 := by
  unfold shapeS at h
  simp [hk] at h
  unfold hasS at h
  simp at h
  exact h.1.1.1

end

end Go.Proofs.Ytiioffjjlcfhgaa
