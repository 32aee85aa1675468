/- Contracts of the reference's greater, deepBlock, DepthBlock. -/
import Derived.Test.YtdmpadonnobeaaaTreD
namespace Go.Proofs.Ytdmpadonnobeaaa
open Go.RowKit

set_option maxRecDepth 100000 in
set_option maxHeartbeats 800000 in
theorem r10greater_any (w : World) (a b : Nat) : Calls Try.prog 72 #[.int .i64 a, .int .i64 b] w fun f w' => f = .returned (.int .i64 ((max a b : Nat) : Int)) ∧ Below w.heap.size w w' := by
  by_cases h : b < a
  · have hi : (b : Int) < (a : Int) := by omega
    have e : max a b = a := by omega
    rw [e]
    clear e h
    go_enter Try.func72, Try.ntmps72
    go_wp2_with fail
    go_ret
    exact ⟨rfl, Below.refl _ _⟩
  · have hi : ¬ (b : Int) < (a : Int) := by omega
    have e : max a b = b := by omega
    rw [e]
    clear e h
    go_enter Try.func72, Try.ntmps72
    go_wp2_with fail
    go_ret
    exact ⟨rfl, Below.refl _ _⟩

/-- the greatest depth of what statements hold -/
def depMs : List SL → Nat
  | [] => 0
  | x :: r => max (depS x) (depMs r)
theorem depMs_cons (x : SL) (r : List SL) : depMs (x :: r) = max (depS x) (depMs r) := rfl
theorem depMs_app (a b : List SL) : depMs (a ++ b) = max (depMs a) (depMs b) := by
  induction a with
  | nil => rw [List.nil_append]; show _ = max 0 _; omega
  | cons x a ih => rw [List.cons_append, depMs_cons, depMs_cons, ih, Nat.max_assoc]
theorem depMs_take {l : List SL} {j : Nat} (h : j < l.length) : depMs (l.take (j + 1)) = max (depMs (l.take j)) (depS (l[j]?.getD nilS)) := by
  rw [List.take_succ_eq_append_getElem h, depMs_app, List.getElem?_eq_getElem h]
  show max _ (max _ 0) = _
  rw [Nat.max_zero]
  rfl
theorem depSs_eq : ∀ {l : List SL}, l ≠ [] → depSs l = depMs l + 1 := by
  intro l
  induction l with
  | nil => intro h; exact absurd rfl h
  | cons x r ih =>
    intro _
    rw [depSs_cons, depMs_cons]
    cases r with
    | nil =>
      show max _ (depSs []) = max _ 0 + 1
      unfold depSs
      omega
    | cons y r =>
      rw [ih (by simp)]
      omega
theorem depSs_nil : depSs [] = 0 := by unfold depSs; rfl

set_option maxRecDepth 100000 in
set_option maxHeartbeats 6400000 in
theorem r10deepBlock_any : ∀ (k : Nat), (k : Int) ≤ 100000 → ∀ (ss : List SL) (A : Option Addr) (n c : Nat) (w : World), RowS6 w w.heap.size A n ss → SL.Ins w w.heap.size ss →
    Calls Try.prog 48 #[.slice A n c, .int .i64 ((k + 1 : Nat) : Int)] w fun f w' => f = .returned (.int .i64 ((min (k + 1) (depSs ss) : Nat) : Int)) ∧ Below w.heap.size w w' := by
  intro k
  induction k with
  | zero =>
    intro _ ss A n c w hrow _
    have hn : ss.length = n := hrow.1
    cases ss with
    | nil =>
      obtain rfl : 0 = n := hn
      rw [depSs_nil]
      show Calls Try.prog _ #[.slice A 0 c, .int .i64 1] w fun f w' => f = .returned (.int .i64 0) ∧ Below w.heap.size w w'
      go_enter Try.func48, Try.ntmps48
      go_wp2_with fail
      go_ret
      exact ⟨rfl, Below.refl _ _⟩
    | cons x r =>
      have e : min (0 + 1) (depSs (x :: r)) = 1 := by rw [depSs_eq (by simp)]; omega
      rw [e]
      have t0 : ((n : Int) == 0) = false := by rw [beq_eq_false_iff_ne]; rw [List.length_cons] at hn; omega
      clear hn hrow e
      show Calls Try.prog _ #[.slice A n c, .int .i64 1] w fun f w' => f = .returned (.int .i64 1) ∧ Below w.heap.size w w'
      go_enter Try.func48, Try.ntmps48
      go_wp2_with fail
      go_ret
      exact ⟨rfl, Below.refl _ _⟩
  | succ q ih =>
    intro hq ss A n c w hrow hins
    have IH := Lib.hid (ih (by omega))
    have hn : ss.length = n := hrow.1
    have hn9 : (n : Int) ≤ 9223372036854775807 := hrow.2.1
    obtain ⟨Q, hQ⟩ : ∃ Q : Nat, Q = q + 1 + 1 := ⟨_, rfl⟩
    have hqi : (1 : Int) < (Q : Int) := by omega
    have hqm : (Q : Int) ≤ 100002 := by omega
    rw [← hQ]
    have HQ := Lib.hid hQ
    have HQ9 : Hid ((q : Int) ≤ 100000) := Lib.hid (by omega)
    have wq : IntKind.i64.wrap ((Q : Int) - 1) = ((q + 1 : Nat) : Int) := by rw [IntKind.wrap_i64]; omega
    have wq2 : wrap64 ((Q : Int) - 1) = ((q + 1 : Nat) : Int) := by rw [IntWalk.wrap64_in _ (by omega)]; omega
    cases hss : ss with
    | nil =>
      subst hss
      obtain rfl : 0 = n := hn
      rw [depSs_nil, Nat.min_zero]
      clear hrow hins hQ
      go_enter Try.func48, Try.ntmps48
      go_wp2_with fail
      go_ret
      exact ⟨rfl, Below.refl _ _⟩
    | cons x0 r0 =>
      rw [← hss]
      have HSS : Hid (min Q (depSs ss) = min (q + 1) (depMs ss) + 1) := Lib.hid (by rw [depSs_eq (by rw [hss]; simp), hQ]; omega)
      have t0 : ((n : Int) == 0) = false := by rw [beq_eq_false_iff_ne]; rw [hss, List.length_cons] at hn; omega
      rw [HSS.out]
      have HR := Lib.hid hrow
      have HA := Lib.hid hins
      have HL := Lib.hid hn
      clear ih hrow hins hn hQ hss hq
      go_enter Try.func48, Try.ntmps48
      go_wp2_with fail
      go_loopw [5, 17] (fun vn vi wr => ∃ j d : Nat, j ≤ n ∧ vi = .int .i64 j ∧ vn = .int .i64 d ∧ Hid (d = min (q + 1) (depMs (ss.take j))) ∧ Hid (Below w.heap.size w wr)) (fun _ vi _ => n - (intOf vi).toNat)
      case atStart => exact ⟨0, 0, Nat.zero_le _, rfl, rfl, Lib.hid (by rw [List.take_zero]; show 0 = min _ 0; omega), Lib.hid (Below.refl _ _)⟩
      case round =>
        obtain ⟨j, d, hj, rfl, rfl, HD, HBR⟩ := hrel
        by_cases hlt : j < n
        · have hdt := depMs_take (l := ss) (j := j) (by rw [HL.out]; exact hlt)
          have hxjl : j < ss.length := by rw [HL.out]; exact hlt
          obtain ⟨xad, rfl, xab, xc⟩ := rowS_at (HR.out.below HBR.out) hlt
          have hx := HA.out.at hxjl
          have hxmem : (ss[j]?.getD nilS) ∈ ss := by rw [List.getElem?_eq_getElem hxjl]; exact List.getElem_mem _
          obtain ⟨x, hxe⟩ : ∃ x, x = ss[j]?.getD nilS := ⟨_, rfl⟩
          obtain ⟨a0, a1, a2, a3, a4, a5⟩ := xc x hxe
          rw [← hxe] at hx hxmem
          have HXx := Lib.hid hx
          have HEx := Lib.hid hxe
          have HMx := Lib.hid hxmem
          rw [← hxe, depS_eq] at hdt
          obtain ⟨hxp, hxq1, hxq2⟩ := hx.parts
          have hxr0 := hxp.2.2.1.1
          have hxi0 := hxp.2.2.1.2
          have hxr1 := hxp.2.2.2.1
          have hxr2 := hxp.2.2.2.2
          clear hxp
          obtain ⟨xk, xm, xs, xA, xn, xc', xes, xA1, xn1, xc1, xbo, xA2, xn2, xc2, xel⟩ := x
          change wr.cell? (xad.add (j * 6)) = some (.int .i64 xk) at a0
          change wr.cell? ⟨(xad.add (j * 6)).block, (xad.add (j * 6)).off + 1, none⟩ = some (.int .i64 xm) at a1
          change wr.cell? ⟨(xad.add (j * 6)).block, (xad.add (j * 6)).off + 2, none⟩ = some (.string (bs xs)) at a2
          change wr.cell? ⟨(xad.add (j * 6)).block, (xad.add (j * 6)).off + 3, none⟩ = some (.slice xA xn xc') at a3
          change wr.cell? ⟨(xad.add (j * 6)).block, (xad.add (j * 6)).off + 4, none⟩ = some (.slice xA1 xn1 xc1) at a4
          change wr.cell? ⟨(xad.add (j * 6)).block, (xad.add (j * 6)).off + 5, none⟩ = some (.slice xA2 xn2 xc2) at a5
          clear xc hxe hx hxmem hxjl
          have HDT : Hid (depMs (ss.take (j + 1)) = max (depMs (ss.take j)) (max (depEs xes) (max (depSs xbo) (depSs xel)))) := Lib.hid hdt
          have HXR : Hid (RowE w w.heap.size xA xn xes) := Lib.hid hxr0
          have HXI : Hid (EL.Ins w w.heap.size xes) := Lib.hid hxi0
          have hxl : xes.length = xn := hxr0.1
          have hxn9 : (xn : Int) ≤ 9223372036854775807 := hxr0.2.1
          have HXL := Lib.hid hxl
          obtain ⟨y, hy⟩ : ∃ y, y = min (q + 1) (depSs xbo) := ⟨_, rfl⟩
          obtain ⟨z, hz⟩ : ∃ z, z = min (q + 1) (depSs xel) := ⟨_, rfl⟩
          have hcb : ∀ W : World, Below wr.heap.size wr W → Calls Try.prog 48 #[.slice xA1 xn1 xc1, .int .i64 ((q + 1 : Nat) : Int)] W fun f w' => f = .returned (.int .i64 (y : Nat)) ∧ Below W.heap.size W w' := fun W hb => by
            have h1 := HBR.out.trans (hb.mono HBR.out.size)
            rw [hy]
            exact IH.out xbo xA1 xn1 xc1 W ((RowS6.below hxr1 h1).more h1.size) ((SL.Ins.below hxq1 h1).more h1.size)
          have hce : ∀ W : World, Below wr.heap.size wr W → Calls Try.prog 48 #[.slice xA2 xn2 xc2, .int .i64 ((q + 1 : Nat) : Int)] W fun f w' => f = .returned (.int .i64 (z : Nat)) ∧ Below W.heap.size W w' := fun W hb => by
            have h1 := HBR.out.trans (hb.mono HBR.out.size)
            rw [hz]
            exact IH.out xel xA2 xn2 xc2 W ((RowS6.below hxr2 h1).more h1.size) ((SL.Ins.below hxq2 h1).more h1.size)
          have HCB := Lib.hid hcb
          have HCE := Lib.hid hce
          have HY := Lib.hid hy
          have HZ := Lib.hid hz
          clear hdt hy hz hcb hce hxr0 hxi0 hxr1 hxr2 hxq1 hxq2 hxl
          obtain ⟨gs, hgs⟩ : ∃ gs, gs = wr.heap.size := ⟨_, rfl⟩
          go_wp2_with (refine wpList_store_row rfl 47 _ _ rfl wr.heap.size #[.int .i64 xk, .int .i64 xm, .string (bs xs), .slice xA xn xc', .slice xA1 xn1 xc1, .slice xA2 xn2 xc2] rfl rfl _ _ (Blk.new wr _ _) stmt_size rfl (stmt_one _ _ _ _ _ _ _ _ _ _ _ _) ?_; obtain ⟨V, hV⟩ : ∃ V, V = (wr.alloc (.cells #[.int .i64 0, .int .i64 0, .string ⟨#[]⟩, .slice none 0 0, .slice none 0 0, .slice none 0 0] 47)).setRow wr.heap.size #[.int .i64 xk, .int .i64 xm, .string (bs xs), .slice xA xn xc', .slice xA1 xn1 xc1, .slice xA2 xn2 xc2] := ⟨_, rfl⟩; rw [← hV]; obtain ⟨hkV, hbV⟩ := put_row hV; have HKV := Lib.hid hkV; have HBV := Lib.hid hbV; clear hV hkV hbV; have v3 : V.cell? ⟨wr.heap.size, 3, none⟩ = some (.slice xA xn xc') := HKV.out.cell 3)
          clear v3
          have HKG : Hid (Blk V gs 47 #[.int .i64 xk, .int .i64 xm, .string (bs xs), .slice xA xn xc', .slice xA1 xn1 xc1, .slice xA2 xn2 xc2]) := Lib.hid (by rw [hgs]; exact HKV.out)
          have HBG := HBV
          rw [← hgs]
          have HGS := Lib.hid hgs
          clear hgs HKV HBV a0 a1 a2 a3 a4 a5
          have HBV0 : Hid (Below w.heap.size w V) := Lib.hid (HBR.out.trans (HBG.out.mono HBR.out.size))
          obtain ⟨U, hU⟩ : ∃ U : World, U = wr := ⟨_, rfl⟩
          rw [← hU] at HBR HBG HCB HCE
          go_loopw [5, 24] (fun vn vi wr => ∃ i e : Nat, i ≤ xn ∧ vi = .int .i64 i ∧ vn = .int .i64 e ∧ Hid (e = max d (min (q + 1) (depEs (xes.take i)))) ∧ Hid (Below V.heap.size V wr)) (fun _ vi _ => xn - (intOf vi).toNat)
          case atStart => exact ⟨0, d, Nat.zero_le _, rfl, rfl, Lib.hid (by rw [List.take_zero]; unfold depEs; omega), Lib.hid (Below.refl _ _)⟩
          case round =>
            obtain ⟨i, e, hi, rfl, rfl, HE, HBI⟩ := hrel
            have HBI0 := Lib.hid (HBV0.out.trans (HBI.out.mono HBV0.out.size))
            by_cases hlt : i < xn
            · have hdt := depEs_take (l := xes) (j := i) (by rw [HXL.out]; exact hlt)
              have hyjl : i < xes.length := by rw [HXL.out]; exact hlt
              obtain ⟨yad, rfl, yab, yc⟩ := row_at (HXR.out.below HBI0.out) hlt
              have hy := HXI.out.at hyjl
              have hymem : (xes[i]?.getD nilE) ∈ xes := by rw [List.getElem?_eq_getElem hyjl]; exact List.getElem_mem _
              obtain ⟨y, hye⟩ : ∃ x, x = xes[i]?.getD nilE := ⟨_, rfl⟩
              obtain ⟨b0, b1, b2, b3, b4⟩ := yc y hye
              rw [← hye] at hy hymem
              have HXy := Lib.hid hy
              have HEy := Lib.hid hye
              have HMy := Lib.hid hymem
              rw [← hye] at hdt
              obtain ⟨yk, yo, ym, ys, yA, yn, yc', yes⟩ := y
              change wr.cell? (yad.add (i * 5)) = some (.int .i64 yk) at b0
              change wr.cell? ⟨(yad.add (i * 5)).block, (yad.add (i * 5)).off + 1, none⟩ = some (.int .i64 yo) at b1
              change wr.cell? ⟨(yad.add (i * 5)).block, (yad.add (i * 5)).off + 2, none⟩ = some (.int .i64 ym) at b2
              change wr.cell? ⟨(yad.add (i * 5)).block, (yad.add (i * 5)).off + 3, none⟩ = some (.string (bs ys)) at b3
              change wr.cell? ⟨(yad.add (i * 5)).block, (yad.add (i * 5)).off + 4, none⟩ = some (.slice yA yn yc') at b4
              clear yc hye hy hymem hyjl
              have HET : Hid (depEs (xes.take (i + 1)) = max (depEs (xes.take i)) (depE (.mk yk yo ym ys yA yn yc' yes))) := Lib.hid hdt
              obtain ⟨u, hu⟩ : ∃ u, u = min (q + 1) (depE (.mk yk yo ym ys yA yn yc' yes)) := ⟨_, rfl⟩
              have HU := Lib.hid hu
              have HC := Lib.hid (r10deep_any q HQ9.out (.mk yk yo ym ys yA yn yc' yes))
              clear hdt hu
              go_wp2_with (first | (refine wpList_store_row rfl 24 _ _ rfl wr.heap.size #[.int .i64 yk, .int .i64 yo, .int .i64 ym, .string (bs ys), .slice yA yn yc'] rfl rfl _ _ (Blk.new wr _ _) expr_size rfl (expr_one _ _ _ _ _ _ _) ?_; obtain ⟨V9, hV9⟩ : ∃ V, V = (wr.alloc (.cells #[.int .i64 0, .int .i64 0, .int .i64 0, .string ⟨#[]⟩, .slice none 0 0] 24)).setRow wr.heap.size #[.int .i64 yk, .int .i64 yo, .int .i64 ym, .string (bs ys), .slice yA yn yc'] := ⟨_, rfl⟩; rw [← hV9]; obtain ⟨hkV9, hbV9⟩ := put_row hV9; have HKV9 := Lib.hid hkV9; have HBV9 := Lib.hid hbV9; clear hV9 hkV9 hbV9) | (refine wpList_load_row rfl 24 _ rfl wr.heap.size rfl 24 #[.int .i64 yk, .int .i64 yo, .int .i64 ym, .string (bs ys), .slice yA yn yc'] (0, 0) _ HKV9.out Try.underlying24 rfl expr_size ?_))
              have HBV9' := Lib.hid (HBI0.out.trans (HBV9.out.mono HBI0.out.size))
              refine (HC.out V9 (EL.In.more HBV9'.out.size (HXy.out.below HBV9'.out))).mono ?_
              rintro f w2 ⟨rfl, hb2⟩
              rw [← HU.out]
              have HB2 := Lib.hid (HBI.out.trans ((HBV9.out.trans (hb2.mono HBV9.out.size)).mono HBI.out.size))
              clear hb2
              go_wp2_with fail
              refine (r10greater_any w2 e u).mono ?_
              rintro f w3 ⟨rfl, hb3⟩
              have HB3 := Lib.hid (HB2.out.trans (hb3.mono HB2.out.size))
              obtain ⟨e2, he2⟩ : ∃ e2, e2 = max e u := ⟨_, rfl⟩
              rw [← he2]
              have HN : Hid (e2 = max d (min (q + 1) (depEs (xes.take (i + 1))))) := Lib.hid (by rw [he2, HET.out]; have h1 := HU.out; have h2 := HE.out; omega)
              clear hb3 he2
              go_wp2_with fail
              go_roundw
              case rel => exact ⟨i + 1, e2, by omega, by go_num, rfl, HN, HB3⟩
              case measure => simp [intOf]; omega
            · obtain rfl : i = xn := by omega
              have HE2 : Hid (e = max d (min (q + 1) (depEs xes))) := Lib.hid (by rw [HE.out, List.take_of_length_le (by rw [HXL.out]; exact Nat.le_refl _)])
              have START : Hid (Below V.heap.size V wr.drew ∧ wr.drew.cell? ⟨gs, 4, none⟩ = some (.slice xA1 xn1 xc1) ∧ wr.drew.cell? ⟨gs, 5, none⟩ = some (.slice xA2 xn2 xc2)) := Lib.hid ⟨HBI.out.drew, held_cells HKG.out HBI.out 4, held_cells HKG.out HBI.out 5⟩
              have STEP : Hid (∀ u1 u2 : World, Below u1.heap.size u1 u2 → (Below V.heap.size V u1 ∧ u1.cell? ⟨gs, 4, none⟩ = some (.slice xA1 xn1 xc1) ∧ u1.cell? ⟨gs, 5, none⟩ = some (.slice xA2 xn2 xc2)) → (Below V.heap.size V u2 ∧ u2.cell? ⟨gs, 4, none⟩ = some (.slice xA1 xn1 xc1) ∧ u2.cell? ⟨gs, 5, none⟩ = some (.slice xA2 xn2 xc2))) := Lib.hid (fun u1 u2 hb hs => by
                have hb2 := hs.1.trans (hb.mono hs.1.size)
                exact ⟨hb2, held_cells HKG.out hb2 4, held_cells HKG.out hb2 5⟩)
              have PRE : Hid (∀ u : World, (Below V.heap.size V u ∧ u.cell? ⟨gs, 4, none⟩ = some (.slice xA1 xn1 xc1) ∧ u.cell? ⟨gs, 5, none⟩ = some (.slice xA2 xn2 xc2)) → Below U.heap.size U u) := Lib.hid (fun u hs => HBG.out.trans (hs.1.mono HBG.out.size))
              have k4 : wr.cell? ⟨gs, 4, none⟩ = some (.slice xA1 xn1 xc1) := held_cells HKG.out HBI.out 4
              have k5 : wr.cell? ⟨gs, 5, none⟩ = some (.slice xA2 xn2 xc2) := held_cells HKG.out HBI.out 5
              go_wp2_with fail
              go_region_held3 (fun u => (Below V.heap.size V u ∧ u.cell? ⟨gs, 4, none⟩ = some (.slice xA1 xn1 xc1) ∧ u.cell? ⟨gs, 5, none⟩ = some (.slice xA2 xn2 xc2))) (first | exact START.out | exact STEP.out _ _ (by assumption) (by assumption))
                (first
                  | (go_at_call_of 48 xA1; refine (HCB.out _ ?_).mono ?_; exact PRE.out _ (by assumption); rintro f wz ⟨rfl, hbb⟩)
                  | (go_at_call_of 48 xA2; refine (HCE.out _ ?_).mono ?_; exact PRE.out _ (by assumption); rintro f wz ⟨rfl, hbb⟩)
                  | (go_at_call 72; refine (r10greater_any _ _ _).mono ?_; rintro f wz ⟨rfl, hbb⟩))
              obtain ⟨e3, he3⟩ : ∃ e3, e3 = max e (max y z) := ⟨_, rfl⟩
              rw [← he3]
              have HN : Hid (e3 = min (q + 1) (depMs (ss.take (j + 1)))) := Lib.hid (by rw [he3, HDT.out]; have h1 := HD.out; have h2 := HE2.out; have h3 := HY.out; have h4 := HZ.out; omega)
              have HBF : Hid (Below w.heap.size w wz) := Lib.hid (HBR.out.trans ((PRE.out _ (by assumption)).mono HBR.out.size))
              clear he3
              go_wp2_with fail
              go_roundw
              case rel => exact ⟨j + 1, e3, by omega, by go_num, rfl, HN, HBF⟩
              case measure => simp [intOf]; omega
        · obtain rfl : j = n := by omega
          have HE : Hid (d = min (q + 1) (depMs ss)) := Lib.hid (by rw [HD.out, List.take_of_length_le (by rw [HL.out]; exact Nat.le_refl _)])
          have hd9 : (d : Int) ≤ 100001 := by have h1 := HE.out; have h2 := HQ.out; omega
          have HF : Hid ((d : Int) + 1 = ((min (q + 1) (depMs ss) + 1 : Nat) : Int)) := Lib.hid (by have h1 := HE.out; omega)
          have wd : IntKind.i64.wrap ((d : Int) + 1) = (d : Int) + 1 := by rw [IntKind.wrap_i64]; omega
          go_wp2_with fail
          go_ret
          rw [← HF.out]
          exact ⟨rfl, HBR.out⟩

set_option maxRecDepth 100000 in
set_option maxHeartbeats 1600000 in
theorem r10DepthBlock_any (ss : List SL) (A : Option Addr) (n c : Nat) (w : World) (hrow : RowS6 w w.heap.size A n ss) (hins : SL.Ins w w.heap.size ss) :
    Calls Try.prog 31 #[.slice A n c] w fun f w' => f = .returned (.int .i64 ((min 65 (depSs ss) : Nat) : Int)) ∧ Below w.heap.size w w' := by
  have HC := Lib.hid (r10deepBlock_any 64 (by decide) ss A n c w hrow hins)
  clear hrow hins
  go_enter Try.func31, Try.ntmps31
  go_wp2_with fail
  refine HC.out.mono ?_
  rintro f w2 ⟨rfl, hb2⟩
  go_wp2_with fail
  go_ret
  exact ⟨rfl, hb2⟩

end Go.Proofs.Ytdmpadonnobeaaa
