/- Contracts of the program's Size, SizeBlock, exprDepth, greatest, blockDepth, depthWithin, Depth, DepthBlock. -/
import Derived.Test.YtdmpadonnobeaaaTreE
namespace Go.Proofs.Ytdmpadonnobeaaa
open Go.RowKit
set_option linter.unusedVariables false

set_option maxRecDepth 100000 in
set_option maxHeartbeats 6400000 in
theorem tSize_any : ∀ (e : EL), (sizeE e : Int) ≤ 1000000 → ∀ w : World, e.In w w.heap.size →
    Calls Try.prog 24 #[eVal e] w fun f w' => f = .returned (.int .i64 (sizeE e : Nat)) ∧ Below w.heap.size w w' := by
  refine EL.ind fun e ih hsz w hin => ?_
  have hrow := hin.row
  have hargs := hin.args
  rw [sizeE_eq] at hsz ⊢
  obtain ⟨k, o, m, s, A, n, c, es⟩ := e
  have hn : es.length = n := hrow.1
  have hn9 : (n : Int) ≤ 9223372036854775807 := hrow.2.1
  have HR : Hid (RowE w w.heap.size A n es) := Lib.hid hrow
  have HA : Hid (EL.Ins w w.heap.size es) := Lib.hid hargs
  have HL := Lib.hid hn
  have ih' : ∀ x ∈ es, (sizeE x : Int) ≤ 1000000 → ∀ w : World, x.In w w.heap.size → Calls Try.prog 24 #[eVal x] w fun f w' => f = .returned (.int .i64 (sizeE x : Nat)) ∧ Below w.heap.size w w' := ih
  have IH := Lib.hid ih'
  change ((1 + sizeEs es : Nat) : Int) ≤ 1000000 at hsz
  show Calls Try.prog _ #[.agg #[.int .i64 k, .int .i64 o, .int .i64 m, .string (bs s), .slice A n c]] w fun f w' => f = .returned (.int .i64 ((1 + sizeEs es : Nat) : Int)) ∧ Below w.heap.size w w'
  clear ih ih' hrow hargs hin hn
  have HSZ := Lib.hid hsz
  obtain ⟨W, hW⟩ : ∃ W, W = w.alloc (.cells #[.int .i64 k, .int .i64 o, .int .i64 m, .string (bs s), .slice A n c] 24) := ⟨_, rfl⟩
  have HBW : Hid (Below w.heap.size w W) := Lib.hid (by rw [hW]; exact (Below.refl _ _).alloc (Nat.le_refl _) _)
  clear hsz
  go_enter Try.func24, Try.ntmps24
  go_wp2_with fail
  rw [← hW]
  clear hW
  go_loopw [3, 9] (fun vn vi wr => ∃ j : Nat, j ≤ n ∧ vi = .int .i64 j ∧ vn = .int .i64 ((1 + sizeEs (es.take j) : Nat) : Int) ∧ Hid (Below W.heap.size W wr)) (fun _ vi _ => n - (intOf vi).toNat)
  case atStart => exact ⟨0, Nat.zero_le _, rfl, rfl, Lib.hid (Below.refl _ _)⟩
  case round =>
    obtain ⟨j, hj, rfl, rfl, HB⟩ := hrel
    have HBR := Lib.hid (HBW.out.trans (HB.out.mono HBW.out.size))
    by_cases hlt : j < n
    · have hjl : j < es.length := by rw [HL.out]; exact hlt
      obtain ⟨ad, rfl, hab, hc⟩ := row_at (HR.out.below HBR.out) hlt
      have hx := HA.out.at hjl
      have hxs := sizeE_at hjl
      have hst := sizeEs_take hjl
      have htk : sizeEs (es.take (j + 1)) ≤ sizeEs es := by
        have := sizeEs_app (es.take (j + 1)) (es.drop (j + 1))
        rw [List.take_append_drop] at this
        omega
      have hmem : (es[j]?.getD nilE) ∈ es := by rw [List.getElem?_eq_getElem hjl]; exact List.getElem_mem _
      have HC := Lib.hid (IH.out _ hmem)
      obtain ⟨x, hxe⟩ : ∃ x, x = es[j]?.getD nilE := ⟨_, rfl⟩
      obtain ⟨a0, a1, a2, a3, a4⟩ := hc x hxe
      rw [← hxe] at hx hxs hst HC
      have HX := Lib.hid hx
      have hss := HSZ.out
      obtain ⟨t, ht⟩ : ∃ t, t = 1 + sizeEs (es.take j) := ⟨_, rfl⟩
      rw [← ht]
      obtain ⟨z, hz⟩ : ∃ z, z = sizeE x := ⟨_, rfl⟩
      have hxz : (sizeE x : Int) ≤ 1000000 := by omega
      have HXZ := Lib.hid hxz
      rw [← hz] at hst
      have HZ := Lib.hid hz
      have HFIN : Hid (wrap64 ((t : Int) + (z : Int)) = ((1 + sizeEs (es.take (j + 1)) : Nat) : Int)) := Lib.hid (by rw [IntWalk.wrap64_in _ (by omega), hst]; omega)
      obtain ⟨xk, xo, xm, xs, xA, xn, xc, xas⟩ := x
      change wr.cell? (ad.add (j * 5)) = some (.int .i64 xk) at a0
      change wr.cell? ⟨(ad.add (j * 5)).block, (ad.add (j * 5)).off + 1, none⟩ = some (.int .i64 xo) at a1
      change wr.cell? ⟨(ad.add (j * 5)).block, (ad.add (j * 5)).off + 2, none⟩ = some (.int .i64 xm) at a2
      change wr.cell? ⟨(ad.add (j * 5)).block, (ad.add (j * 5)).off + 3, none⟩ = some (.string (bs xs)) at a3
      change wr.cell? ⟨(ad.add (j * 5)).block, (ad.add (j * 5)).off + 4, none⟩ = some (.slice xA xn xc) at a4
      clear hc hxe hst hxs htk hmem hx hz ht hxz hss hjl
      go_wp2_with (first | (refine wpList_store_row rfl 24 _ _ rfl wr.heap.size #[.int .i64 xk, .int .i64 xo, .int .i64 xm, .string (bs xs), .slice xA xn xc] rfl rfl _ _ (Blk.new wr _ _) expr_size rfl (expr_one _ _ _ _ _ _ _) ?_; obtain ⟨V, hV⟩ : ∃ V, V = (wr.alloc (.cells #[.int .i64 0, .int .i64 0, .int .i64 0, .string ⟨#[]⟩, .slice none 0 0] 24)).setRow wr.heap.size #[.int .i64 xk, .int .i64 xo, .int .i64 xm, .string (bs xs), .slice xA xn xc] := ⟨_, rfl⟩; rw [← hV]; obtain ⟨hkV, hbV⟩ := put_row hV; have HKV := Lib.hid hkV; have HBV := Lib.hid hbV; clear hV hkV hbV) | (refine wpList_load_row rfl 24 _ rfl wr.heap.size rfl 24 #[.int .i64 xk, .int .i64 xo, .int .i64 xm, .string (bs xs), .slice xA xn xc] (0, 0) _ HKV.out Try.underlying24 rfl expr_size ?_))
      have HBV2 := Lib.hid (HBR.out.trans (HBV.out.mono HBR.out.size))
      refine (HC.out HXZ.out V (EL.In.more HBV2.out.size (HX.out.below HBV2.out))).mono ?_
      rintro f w2 ⟨rfl, hb2⟩
      rw [← HZ.out]
      have HB2 := Lib.hid (HB.out.trans ((HBV.out.trans (hb2.mono HBV.out.size)).mono HB.out.size))
      clear hb2
      go_wp2_with fail
      go_roundw
      case rel => exact ⟨j + 1, by omega, by go_num, by rw [HFIN.out], HB2⟩
      case measure => simp [intOf]; omega
    · obtain rfl : j = n := by omega
      have HE : Hid (es.take j = es) := Lib.hid (List.take_of_length_le (by rw [HL.out]; exact Nat.le_refl _))
      go_wp2_with fail
      go_ret
      rw [HE.out]
      exact ⟨rfl, HBR.out⟩

set_option maxRecDepth 100000 in
set_option maxHeartbeats 6400000 in
theorem tSizeBlock_any : ∀ (q : Nat), (q : Int) ≤ 1000000 → ∀ (ss : List SL) (A : Option Addr) (n c : Nat) (w : World), sizeSs ss ≤ q → RowS6 w w.heap.size A n ss → SL.Ins w w.heap.size ss →
    Calls Try.prog 26 #[.slice A n c] w fun f w' => f = .returned (.int .i64 (sizeSs ss : Nat)) ∧ Below w.heap.size w w' := by
  intro q
  induction q with
  | zero =>
    intro _ ss A n c w hz hrow _
    cases ss with
    | nil =>
      obtain rfl : 0 = n := hrow.1
      rw [show sizeSs [] = 0 by unfold sizeSs; rfl]
      go_enter Try.func26, Try.ntmps26
      go_wp2_with fail
      go_loopw [3, 8] (fun vn vi wr => vn = .int .i64 0 ∧ vi = .int .i64 0 ∧ Hid (w = wr)) (fun _ _ _ => 0)
      case atStart => exact ⟨rfl, rfl, Lib.hid rfl⟩
      case round =>
        obtain ⟨rfl, rfl, HW⟩ := hrel
        go_wp2_with fail
        go_ret
        exact ⟨rfl, by rw [HW.out]; exact Below.refl _ _⟩
    | cons x r => rw [sizeSs_cons, sizeS_eq] at hz; omega
  | succ q ih =>
    intro hq ss A n c w hz hrow hins
    have IH := Lib.hid (ih (by omega))
    have hn : ss.length = n := hrow.1
    have hn9 : (n : Int) ≤ 9223372036854775807 := hrow.2.1
    have HR := Lib.hid hrow
    have HA := Lib.hid hins
    have HL := Lib.hid hn
    have HZ := Lib.hid hz
    have hss : (sizeSs ss : Int) ≤ 1000000 := by omega
    have HSS := Lib.hid hss
    clear ih hrow hins hn hz hss
    go_enter Try.func26, Try.ntmps26
    go_wp2_with fail
    go_loopw [3, 8] (fun vn vi wr => ∃ j : Nat, j ≤ n ∧ vi = .int .i64 j ∧ vn = .int .i64 ((sizeSs (ss.take j) : Nat) : Int) ∧ Hid (Below w.heap.size w wr)) (fun _ vi _ => n - (intOf vi).toNat)
    case atStart => exact ⟨0, Nat.zero_le _, rfl, by rw [List.take_zero]; unfold sizeSs; rfl, Lib.hid (Below.refl _ _)⟩
    case round =>
      obtain ⟨j, hj, rfl, rfl, HBR⟩ := hrel
      by_cases hlt : j < n
      · have hst := sizeSs_take (l := ss) (j := j) (by rw [HL.out]; exact hlt)
        have htk : sizeSs (ss.take (j + 1)) ≤ sizeSs ss := by
          have := sizeSs_app (ss.take (j + 1)) (ss.drop (j + 1))
          rw [List.take_append_drop] at this
          omega
        have hxjl : j < ss.length := by rw [HL.out]; exact hlt
        obtain ⟨xad, rfl, xab, xc⟩ := rowS_at (HR.out.below HBR.out) hlt
        have hx := HA.out.at hxjl
        have hxmem : (ss[j]?.getD nilS) ∈ ss := by rw [List.getElem?_eq_getElem hxjl]; exact List.getElem_mem _
        obtain ⟨x, hxe⟩ : ∃ x, x = ss[j]?.getD nilS := ⟨_, rfl⟩
        obtain ⟨a0, a1, a2, a3, a4, a5⟩ := xc x hxe
        rw [← hxe] at hx hxmem
        have HXx := Lib.hid hx
        have HEx := Lib.hid hxe
        have HMx := Lib.hid hxmem
        rw [← hxe, sizeS_eq] at hst
        obtain ⟨hxp, hxq1, hxq2⟩ := hx.parts
        have hxr1 := hxp.2.2.2.1
        have hxr2 := hxp.2.2.2.2
        clear hxp
        obtain ⟨xk, xm, xs, xA, xn, xc', xes, xA1, xn1, xc1, xbo, xA2, xn2, xc2, xel⟩ := x
        change wr.cell? (xad.add (j * 6)) = some (.int .i64 xk) at a0
        change wr.cell? ⟨(xad.add (j * 6)).block, (xad.add (j * 6)).off + 1, none⟩ = some (.int .i64 xm) at a1
        change wr.cell? ⟨(xad.add (j * 6)).block, (xad.add (j * 6)).off + 2, none⟩ = some (.string (bs xs)) at a2
        change wr.cell? ⟨(xad.add (j * 6)).block, (xad.add (j * 6)).off + 3, none⟩ = some (.slice xA xn xc') at a3
        change wr.cell? ⟨(xad.add (j * 6)).block, (xad.add (j * 6)).off + 4, none⟩ = some (.slice xA1 xn1 xc1) at a4
        change wr.cell? ⟨(xad.add (j * 6)).block, (xad.add (j * 6)).off + 5, none⟩ = some (.slice xA2 xn2 xc2) at a5
        clear xc hxe hx hxmem hxjl
        obtain ⟨t, ht⟩ : ∃ t, t = sizeSs (ss.take j) := ⟨_, rfl⟩
        have hst' : sizeSs (ss.take (j + 1)) = sizeSs (ss.take j) + (1 + sizeSs xbo + sizeSs xel) := hst
        obtain ⟨y, hy⟩ : ∃ y, y = sizeSs xbo := ⟨_, rfl⟩
        obtain ⟨z, hz⟩ : ∃ z, z = sizeSs xel := ⟨_, rfl⟩
        rw [← ht, ← hy, ← hz] at hst'
        rw [← ht]
        have hss := HSS.out
        have hzz := HZ.out
        have hcb : ∀ W : World, Below wr.heap.size wr W → Calls Try.prog 26 #[.slice xA1 xn1 xc1] W fun f w' => f = .returned (.int .i64 (y : Nat)) ∧ Below W.heap.size W w' := fun W hb => by
          have h1 := HBR.out.trans (hb.mono HBR.out.size)
          rw [hy]
          exact IH.out xbo xA1 xn1 xc1 W (by omega) ((RowS6.below hxr1 h1).more h1.size) ((SL.Ins.below hxq1 h1).more h1.size)
        have hce : ∀ W : World, Below wr.heap.size wr W → Calls Try.prog 26 #[.slice xA2 xn2 xc2] W fun f w' => f = .returned (.int .i64 (z : Nat)) ∧ Below W.heap.size W w' := fun W hb => by
          have h1 := HBR.out.trans (hb.mono HBR.out.size)
          rw [hz]
          exact IH.out xel xA2 xn2 xc2 W (by omega) ((RowS6.below hxr2 h1).more h1.size) ((SL.Ins.below hxq2 h1).more h1.size)
        have HCB := Lib.hid hcb
        have HCE := Lib.hid hce
        have w1 : IntKind.i64.wrap (1 + (y : Int)) = 1 + (y : Int) := by rw [IntKind.wrap_i64]; omega
        have w2 : IntKind.i64.wrap (1 + (y : Int) + (z : Int)) = 1 + (y : Int) + (z : Int) := by rw [IntKind.wrap_i64]; omega
        have w3 : IntKind.i64.wrap ((t : Int) + (1 + (y : Int) + (z : Int))) = (t : Int) + (1 + (y : Int) + (z : Int)) := by rw [IntKind.wrap_i64]; omega
        have HFIN : Hid ((t : Int) + (1 + (y : Int) + (z : Int)) = ((sizeSs (ss.take (j + 1)) : Nat) : Int)) := Lib.hid (by rw [hst']; omega)
        clear hst hst' htk ht hy hz hss hzz hcb hce hxr1 hxr2 hxq1 hxq2
        go_wp2_with (refine wpList_store_row rfl 47 _ _ rfl wr.heap.size #[.int .i64 xk, .int .i64 xm, .string (bs xs), .slice xA xn xc', .slice xA1 xn1 xc1, .slice xA2 xn2 xc2] rfl rfl _ _ (Blk.new wr _ _) stmt_size rfl (stmt_one _ _ _ _ _ _ _ _ _ _ _ _) ?_; obtain ⟨V, hV⟩ : ∃ V, V = (wr.alloc (.cells #[.int .i64 0, .int .i64 0, .string ⟨#[]⟩, .slice none 0 0, .slice none 0 0, .slice none 0 0] 47)).setRow wr.heap.size #[.int .i64 xk, .int .i64 xm, .string (bs xs), .slice xA xn xc', .slice xA1 xn1 xc1, .slice xA2 xn2 xc2] := ⟨_, rfl⟩; rw [← hV]; obtain ⟨hkV, hbV⟩ := put_row hV; have HKV := Lib.hid hkV; have HBV := Lib.hid hbV; clear hV hkV hbV; have v4 : V.cell? ⟨wr.heap.size, 4, none⟩ = some (.slice xA1 xn1 xc1) := HKV.out.cell 4; have v5 : V.cell? ⟨wr.heap.size, 5, none⟩ = some (.slice xA2 xn2 xc2) := HKV.out.cell 5)
        have START : Hid (Below V.heap.size V V.drew ∧ V.drew.cell? ⟨wr.heap.size, 4, none⟩ = some (.slice xA1 xn1 xc1) ∧ V.drew.cell? ⟨wr.heap.size, 5, none⟩ = some (.slice xA2 xn2 xc2)) := Lib.hid ⟨(Below.refl _ _).drew, v4, v5⟩
        have STEP : Hid (∀ u1 u2 : World, Below u1.heap.size u1 u2 → (Below V.heap.size V u1 ∧ u1.cell? ⟨wr.heap.size, 4, none⟩ = some (.slice xA1 xn1 xc1) ∧ u1.cell? ⟨wr.heap.size, 5, none⟩ = some (.slice xA2 xn2 xc2)) → (Below V.heap.size V u2 ∧ u2.cell? ⟨wr.heap.size, 4, none⟩ = some (.slice xA1 xn1 xc1) ∧ u2.cell? ⟨wr.heap.size, 5, none⟩ = some (.slice xA2 xn2 xc2))) := Lib.hid (fun u1 u2 hb hs => by
          have hb2 := hs.1.trans (hb.mono hs.1.size)
          exact ⟨hb2, held_cells HKV.out hb2 4, held_cells HKV.out hb2 5⟩)
        have PRE : Hid (∀ u : World, (Below V.heap.size V u ∧ u.cell? ⟨wr.heap.size, 4, none⟩ = some (.slice xA1 xn1 xc1) ∧ u.cell? ⟨wr.heap.size, 5, none⟩ = some (.slice xA2 xn2 xc2)) → Below wr.heap.size wr u) := Lib.hid (fun u hs => HBV.out.trans (hs.1.mono HBV.out.size))
        clear v4 v5
        go_region_held3 (fun u => (Below V.heap.size V u ∧ u.cell? ⟨wr.heap.size, 4, none⟩ = some (.slice xA1 xn1 xc1) ∧ u.cell? ⟨wr.heap.size, 5, none⟩ = some (.slice xA2 xn2 xc2))) (first | exact START.out | exact STEP.out _ _ (by assumption) (by assumption))
          (first
            | (go_at_call_of 26 xA1; refine (HCB.out _ ?_).mono ?_; exact PRE.out _ (by assumption); rintro f wz ⟨rfl, hbb⟩)
            | (go_at_call_of 26 xA2; refine (HCE.out _ ?_).mono ?_; exact PRE.out _ (by assumption); rintro f wz ⟨rfl, hbb⟩))
        have HBF : Hid (Below w.heap.size w wz) := Lib.hid (HBR.out.trans ((PRE.out _ (by assumption)).mono HBR.out.size))
        go_wp2_with fail
        go_roundw
        case rel => exact ⟨j + 1, by omega, by go_num, by rw [HFIN.out], HBF⟩
        case measure => simp [intOf]; omega
      · obtain rfl : j = n := by omega
        have HE : Hid (ss.take j = ss) := Lib.hid (List.take_of_length_le (by rw [HL.out]; exact Nat.le_refl _))
        go_wp2_with fail
        go_ret
        rw [HE.out]
        exact ⟨rfl, HBR.out⟩

theorem depEs_le {l : List EL} {j : Nat} : depEs (l.take j) ≤ depEs l := by
  have := depEs_app (l.take j) (l.drop j)
  rw [List.take_append_drop] at this
  omega
theorem depMs_le {l : List SL} {j : Nat} : depMs (l.take j) ≤ depMs l := by
  have := depMs_app (l.take j) (l.drop j)
  rw [List.take_append_drop] at this
  omega
theorem depEs_nil : depEs [] = 0 := by unfold depEs; rfl

set_option maxRecDepth 100000 in
set_option maxHeartbeats 6400000 in
theorem tgreatestE_of (k : Nat) (hk : (k : Int) ≤ 100000) (hP : 1 ≤ k → ∀ (e : EL) (w : World), e.In w w.heap.size → Calls Try.prog 45 #[eVal e, .int .i64 (k : Int)] w fun f w' => f = .returned (.int .i64 ((min k (depE e) : Nat) : Int)) ∧ Below w.heap.size w w')
    (es : List EL) (A : Option Addr) (n c : Nat) (w : World) (hrow : RowE w w.heap.size A n es) (hins : EL.Ins w w.heap.size es) :
    Calls Try.prog 69 #[.slice A n c, .func (.func 45) #[] #[], .int .i64 (k : Int)] w fun f w' => f = .returned (.int .i64 ((min k (depEs es) : Nat) : Int)) ∧ Below w.heap.size w w' := by
  have hn : es.length = n := hrow.1
  have hn9 : (n : Int) ≤ 9223372036854775807 := hrow.2.1
  have HR := Lib.hid hrow
  have HA := Lib.hid hins
  have HL := Lib.hid hn
  have HP := Lib.hid hP
  clear hrow hins hn hP
  go_enter Try.func69, Try.ntmps69
  go_wp2_with fail
  go_loopw [7, 8] (fun vd vi wr => ∃ j d : Nat, j ≤ n ∧ vi = .int .i64 j ∧ vd = .int .i64 d ∧ Hid (d = min k (depEs (es.take j))) ∧ Hid (Below w.heap.size w wr)) (fun _ vi _ => n - (intOf vi).toNat)
  case atStart => exact ⟨0, 0, Nat.zero_le _, rfl, rfl, Lib.hid (by rw [List.take_zero, depEs_nil]; exact (Nat.min_zero k).symm), Lib.hid (Below.refl _ _)⟩
  case round =>
    obtain ⟨j, d, hj, rfl, rfl, HD, HBR⟩ := hrel
    by_cases hlt : j < n
    · by_cases hdk : d < k
      · have hdt := depEs_take (l := es) (j := j) (by rw [HL.out]; exact hlt)
        have hxjl : j < es.length := by rw [HL.out]; exact hlt
        obtain ⟨xad, rfl, xab, xc⟩ := row_at (HR.out.below HBR.out) hlt
        have hx := HA.out.at hxjl
        have hxmem : (es[j]?.getD nilE) ∈ es := by rw [List.getElem?_eq_getElem hxjl]; exact List.getElem_mem _
        obtain ⟨x, hxe⟩ : ∃ x, x = es[j]?.getD nilE := ⟨_, rfl⟩
        obtain ⟨a0, a1, a2, a3, a4⟩ := xc x hxe
        rw [← hxe] at hx hxmem
        have HXx := Lib.hid hx
        have HEx := Lib.hid hxe
        have HMx := Lib.hid hxmem
        rw [← hxe] at hdt
        obtain ⟨xk, xo, xm, xs, xA, xn, xc', xes⟩ := x
        change wr.cell? (xad.add (j * 5)) = some (.int .i64 xk) at a0
        change wr.cell? ⟨(xad.add (j * 5)).block, (xad.add (j * 5)).off + 1, none⟩ = some (.int .i64 xo) at a1
        change wr.cell? ⟨(xad.add (j * 5)).block, (xad.add (j * 5)).off + 2, none⟩ = some (.int .i64 xm) at a2
        change wr.cell? ⟨(xad.add (j * 5)).block, (xad.add (j * 5)).off + 3, none⟩ = some (.string (bs xs)) at a3
        change wr.cell? ⟨(xad.add (j * 5)).block, (xad.add (j * 5)).off + 4, none⟩ = some (.slice xA xn xc') at a4
        clear xc hxe hx hxmem hxjl
        have HDT := Lib.hid hdt
        obtain ⟨z, hz⟩ : ∃ z, z = min k (depE (.mk xk xo xm xs xA xn xc' xes)) := ⟨_, rfl⟩
        have HZ := Lib.hid hz
        have HC := Lib.hid (HP.out (by omega) (.mk xk xo xm xs xA xn xc' xes))
        obtain ⟨D, hD⟩ : ∃ D : Nat, D = max d z := ⟨_, rfl⟩
        have HDM := Lib.hid hD
        have HN : Hid (D = min k (depEs (es.take (j + 1)))) := Lib.hid (by rw [HDT.out, hD]; have h1 := HZ.out; have h2 := HD.out; omega)
        clear hdt hz hD
        go_wp2_with fail
        refine (HC.out wr (EL.In.more HBR.out.size (HXx.out.below HBR.out))).mono ?_
        rintro f w2 ⟨rfl, hb2⟩
        rw [← HZ.out]
        have HB2 := Lib.hid (HBR.out.trans (hb2.mono HBR.out.size))
        clear hb2
        go_wp2_with fail
        go_roundw
        case rel => exact ⟨j + 1, D, by omega, by go_num, (by have h := HDM.out; congr 1; split <;> omega), HN, HB2⟩
        case measure => simp [intOf]; omega
      · have HE : Hid (d = min k (depEs es)) := Lib.hid (by have h1 := HD.out; have h2 := depEs_le (l := es) (j := j); omega)
        have hdk2 : decide (d < k) = false := by simpa using hdk
        clear hdk
        go_wp2_with fail
        go_ret
        rw [← HE.out]
        exact ⟨rfl, HBR.out⟩
    · obtain rfl : j = n := by omega
      have HE : Hid (d = min k (depEs es)) := Lib.hid (by rw [HD.out, List.take_of_length_le (by rw [HL.out]; exact Nat.le_refl _)])
      go_wp2_with fail
      go_ret
      rw [← HE.out]
      exact ⟨rfl, HBR.out⟩

set_option maxRecDepth 100000 in
set_option maxHeartbeats 6400000 in
theorem texprDepth_any : ∀ (k : Nat), (k : Int) ≤ 100000 → 1 ≤ k → ∀ (e : EL) (w : World), e.In w w.heap.size →
    Calls Try.prog 45 #[eVal e, .int .i64 (k : Int)] w fun f w' => f = .returned (.int .i64 ((min k (depE e) : Nat) : Int)) ∧ Below w.heap.size w w' := by
  intro k
  induction k with
  | zero => intro _ h; omega
  | succ q ih =>
    intro hq _ e w hin
    have IH := Lib.hid (ih (by omega))
    have hrow := hin.row
    have hargs := hin.args
    obtain ⟨Q, hQ⟩ : ∃ Q : Nat, Q = q + 1 := ⟨_, rfl⟩
    have HF : Hid (1 + (min q (depEs e.args) : Nat) = min (q + 1) (depE e)) := Lib.hid (by rw [depE_eq]; omega)
    have hq1 : 1 + ((min q (depEs e.args) : Nat) : Int) ≤ 100001 := by omega
    have hq0 : 0 ≤ ((min q (depEs e.args) : Nat) : Int) := by omega
    rw [← HF.out]
    obtain ⟨k, o, m, s, A, n, c, es⟩ := e
    have hn9 : (n : Int) ≤ 9223372036854775807 := hrow.2.1
    have HQ9 : Hid ((q : Int) ≤ 100000) := Lib.hid (by omega)
    have HC : Hid (∀ W : World, Below w.heap.size w W → Calls Try.prog 69 #[.slice A n c, .func (.func 45) #[] #[], .int .i64 (q : Int)] W fun f w' => f = .returned (.int .i64 ((min q (depEs es) : Nat) : Int)) ∧ Below W.heap.size W w') := Lib.hid fun W hb =>
      tgreatestE_of q HQ9.out (fun h1 => IH.out h1) es A n c W ((RowE.below hrow hb).more hb.size) ((EL.Ins.below hargs hb).more hb.size)
    rw [← hQ]
    show Calls Try.prog _ #[.agg #[.int .i64 k, .int .i64 o, .int .i64 m, .string (bs s), .slice A n c], .int .i64 (Q : Int)] w fun f w' => f = .returned (.int .i64 ((1 + min q (depEs es) : Nat) : Int)) ∧ Below w.heap.size w w'
    change 1 + ((min q (depEs es) : Nat) : Int) ≤ 100001 at hq1
    change 0 ≤ ((min q (depEs es) : Nat) : Int) at hq0
    have wq2 : wrap64 ((Q : Int) - 1) = (q : Int) := by rw [IntWalk.wrap64_in _ (by omega)]; omega
    have wq : IntKind.i64.wrap ((Q : Int) - 1) = (q : Int) := by rw [IntKind.wrap_i64]; omega
    obtain ⟨W, hW⟩ : ∃ W, W = w.alloc (.cells #[.int .i64 k, .int .i64 o, .int .i64 m, .string (bs s), .slice A n c] 24) := ⟨_, rfl⟩
    have HBW : Hid (Below w.heap.size w W) := Lib.hid (by rw [hW]; exact (Below.refl _ _).alloc (Nat.le_refl _) _)
    obtain ⟨r, hr⟩ : ∃ r : Nat, r = min q (depEs es) := ⟨_, rfl⟩
    rw [← hr] at hq1 hq0 ⊢
    have HRR := Lib.hid hr
    clear ih hrow hargs hin hQ hq hr HF
    go_enter Try.func45, Try.ntmps45
    go_wp2_with fail
    rw [← hW]
    clear hW wq wq2
    refine (HC.out W HBW.out).mono ?_
    rintro f w2 ⟨rfl, hb2⟩
    rw [← HRR.out]
    go_wp2_with fail
    go_ret
    exact ⟨by rw [Int.natCast_add]; rfl, HBW.out.trans (hb2.mono HBW.out.size)⟩

set_option maxRecDepth 100000 in
set_option maxHeartbeats 6400000 in
theorem tDepth_any (e : EL) (w : World) (hin : e.In w w.heap.size) :
    Calls Try.prog 25 #[eVal e] w fun f w' => f = .returned (.int .i64 ((min 65 (depE e) : Nat) : Int)) ∧ Below w.heap.size w w' := by
  have hc := fun W (h : e.In W W.heap.size) => texprDepth_any 65 (by decide) (by decide) e W h
  have HC := Lib.hid hc
  obtain ⟨k, o, m, s, A, n, c, es⟩ := e
  have HI := Lib.hid hin
  obtain ⟨z, hz⟩ : ∃ z, z = min 65 (depE (.mk k o m s A n c es)) := ⟨_, rfl⟩
  have HZ := Lib.hid hz
  rw [← hz]
  clear hz hc hin
  show Calls Try.prog _ #[.agg #[.int .i64 k, .int .i64 o, .int .i64 m, .string (bs s), .slice A n c]] w fun f w' => f = .returned (.int .i64 (z : Int)) ∧ Below w.heap.size w w'
  obtain ⟨W, hW⟩ : ∃ W, W = w.alloc (.cells #[.int .i64 k, .int .i64 o, .int .i64 m, .string (bs s), .slice A n c] 24) := ⟨_, rfl⟩
  have HBW : Hid (Below w.heap.size w W) := Lib.hid (by rw [hW]; exact (Below.refl _ _).alloc (Nat.le_refl _) _)
  go_enter Try.func25, Try.ntmps25
  go_wp2_with fail
  rw [← hW]
  clear hW
  refine (HC.out W (EL.In.more HBW.out.size (HI.out.below HBW.out))).mono ?_
  rintro f w2 ⟨rfl, hb2⟩
  rw [← HZ.out]
  go_wp2_with fail
  go_ret
  exact ⟨rfl, HBW.out.trans (hb2.mono HBW.out.size)⟩

theorem depMs_nil : depMs [] = 0 := rfl

set_option maxRecDepth 100000 in
set_option maxHeartbeats 6400000 in
theorem tgreatestS_of (k : Nat) (hk : (k : Int) ≤ 100000) (hP : 1 ≤ k → ∀ (e : SL) (w : World), e.In w w.heap.size → Calls Try.prog 71 #[sVal e, .int .i64 (k : Int)] w fun f w' => f = .returned (.int .i64 ((min k (depS e) : Nat) : Int)) ∧ Below w.heap.size w w')
    (es : List SL) (A : Option Addr) (n c : Nat) (w : World) (hrow : RowS6 w w.heap.size A n es) (hins : SL.Ins w w.heap.size es) :
    Calls Try.prog 70 #[.slice A n c, .func (.func 71) #[] #[], .int .i64 (k : Int)] w fun f w' => f = .returned (.int .i64 ((min k (depMs es) : Nat) : Int)) ∧ Below w.heap.size w w' := by
  have hn : es.length = n := hrow.1
  have hn9 : (n : Int) ≤ 9223372036854775807 := hrow.2.1
  have HR := Lib.hid hrow
  have HA := Lib.hid hins
  have HL := Lib.hid hn
  have HP := Lib.hid hP
  clear hrow hins hn hP
  go_enter Try.func70, Try.ntmps70
  go_wp2_with fail
  go_loopw [7, 8] (fun vd vi wr => ∃ j d : Nat, j ≤ n ∧ vi = .int .i64 j ∧ vd = .int .i64 d ∧ Hid (d = min k (depMs (es.take j))) ∧ Hid (Below w.heap.size w wr)) (fun _ vi _ => n - (intOf vi).toNat)
  case atStart => exact ⟨0, 0, Nat.zero_le _, rfl, rfl, Lib.hid (by rw [List.take_zero, depMs_nil]; exact (Nat.min_zero k).symm), Lib.hid (Below.refl _ _)⟩
  case round =>
    obtain ⟨j, d, hj, rfl, rfl, HD, HBR⟩ := hrel
    by_cases hlt : j < n
    · by_cases hdk : d < k
      · have hdt := depMs_take (l := es) (j := j) (by rw [HL.out]; exact hlt)
        have hxjl : j < es.length := by rw [HL.out]; exact hlt
        obtain ⟨xad, rfl, xab, xc⟩ := rowS_at (HR.out.below HBR.out) hlt
        have hx := HA.out.at hxjl
        have hxmem : (es[j]?.getD nilS) ∈ es := by rw [List.getElem?_eq_getElem hxjl]; exact List.getElem_mem _
        obtain ⟨x, hxe⟩ : ∃ x, x = es[j]?.getD nilS := ⟨_, rfl⟩
        obtain ⟨a0, a1, a2, a3, a4, a5⟩ := xc x hxe
        rw [← hxe] at hx hxmem
        have HXx := Lib.hid hx
        have HEx := Lib.hid hxe
        have HMx := Lib.hid hxmem
        rw [← hxe] at hdt
        obtain ⟨xk, xm, xs, xA, xn, xc', xes, xA1, xn1, xc1, xbo, xA2, xn2, xc2, xel⟩ := x
        change wr.cell? (xad.add (j * 6)) = some (.int .i64 xk) at a0
        change wr.cell? ⟨(xad.add (j * 6)).block, (xad.add (j * 6)).off + 1, none⟩ = some (.int .i64 xm) at a1
        change wr.cell? ⟨(xad.add (j * 6)).block, (xad.add (j * 6)).off + 2, none⟩ = some (.string (bs xs)) at a2
        change wr.cell? ⟨(xad.add (j * 6)).block, (xad.add (j * 6)).off + 3, none⟩ = some (.slice xA xn xc') at a3
        change wr.cell? ⟨(xad.add (j * 6)).block, (xad.add (j * 6)).off + 4, none⟩ = some (.slice xA1 xn1 xc1) at a4
        change wr.cell? ⟨(xad.add (j * 6)).block, (xad.add (j * 6)).off + 5, none⟩ = some (.slice xA2 xn2 xc2) at a5
        clear xc hxe hx hxmem hxjl
        have HDT := Lib.hid hdt
        obtain ⟨z, hz⟩ : ∃ z, z = min k (depS (.mk xk xm xs xA xn xc' xes xA1 xn1 xc1 xbo xA2 xn2 xc2 xel)) := ⟨_, rfl⟩
        have HZ := Lib.hid hz
        have HC := Lib.hid (HP.out (by omega) (.mk xk xm xs xA xn xc' xes xA1 xn1 xc1 xbo xA2 xn2 xc2 xel))
        obtain ⟨D, hD⟩ : ∃ D : Nat, D = max d z := ⟨_, rfl⟩
        have HDM := Lib.hid hD
        have HN : Hid (D = min k (depMs (es.take (j + 1)))) := Lib.hid (by rw [HDT.out, hD]; have h1 := HZ.out; have h2 := HD.out; omega)
        clear hdt hz hD
        go_wp2_with fail
        refine (HC.out wr (SL.In.more HBR.out.size (HXx.out.below HBR.out))).mono ?_
        rintro f w2 ⟨rfl, hb2⟩
        rw [← HZ.out]
        have HB2 := Lib.hid (HBR.out.trans (hb2.mono HBR.out.size))
        clear hb2
        go_wp2_with fail
        go_roundw
        case rel => exact ⟨j + 1, D, by omega, by go_num, (by have h := HDM.out; congr 1; split <;> omega), HN, HB2⟩
        case measure => simp [intOf]; omega
      · have HE : Hid (d = min k (depMs es)) := Lib.hid (by have h1 := HD.out; have h2 := depMs_le (l := es) (j := j); omega)
        have hdk2 : decide (d < k) = false := by simpa using hdk
        clear hdk
        go_wp2_with fail
        go_ret
        rw [← HE.out]
        exact ⟨rfl, HBR.out⟩
    · obtain rfl : j = n := by omega
      have HE : Hid (d = min k (depMs es)) := Lib.hid (by rw [HD.out, List.take_of_length_le (by rw [HL.out]; exact Nat.le_refl _)])
      go_wp2_with fail
      go_ret
      rw [← HE.out]
      exact ⟨rfl, HBR.out⟩

set_option maxRecDepth 100000 in
set_option maxHeartbeats 6400000 in
theorem tgreatestB_of (k : Nat) (hk : (k : Int) ≤ 100000) (hP : 1 ≤ k → ∀ (ss : List SL) (A : Option Addr) (n c : Nat) (w : World), RowS6 w w.heap.size A n ss → SL.Ins w w.heap.size ss → Calls Try.prog 46 #[.slice A n c, .int .i64 (k : Int)] w fun f w' => f = .returned (.int .i64 ((min k (depSs ss) : Nat) : Int)) ∧ Below w.heap.size w w')
    (bo el : List SL) (A1 A2 : Option Addr) (n1 c1 n2 c2 g : Nat) (w : World) (hg : g < w.heap.size) (h0 : w.cell? ⟨g, 0, none⟩ = some (.slice A1 n1 c1)) (h1 : w.cell? ⟨g, 1, none⟩ = some (.slice A2 n2 c2))
    (hr1 : RowS6 w w.heap.size A1 n1 bo) (hi1 : SL.Ins w w.heap.size bo) (hr2 : RowS6 w w.heap.size A2 n2 el) (hi2 : SL.Ins w w.heap.size el) :
    Calls Try.prog 87 #[.slice (some ⟨g, 0, none⟩) 2 2, .func (.func 46) #[] #[], .int .i64 (k : Int)] w fun f w' => f = .returned (.int .i64 ((min k (max (depSs bo) (depSs el)) : Nat) : Int)) ∧ Below w.heap.size w w' := by
  have HP := Lib.hid hP
  have HG := Lib.hid hg
  have H0 := Lib.hid h0
  have H1 := Lib.hid h1
  have HR1 := Lib.hid hr1
  have HI1 := Lib.hid hi1
  have HR2 := Lib.hid hr2
  have HI2 := Lib.hid hi2
  clear hP hg h0 h1 hr1 hi1 hr2 hi2
  go_enter Try.func87, Try.ntmps87
  go_wp2_with fail
  go_loopw [7, 8] (fun vd vi wr => ∃ d : Nat, ((vi = .int .i64 0 ∧ Hid (d = 0)) ∨ (vi = .int .i64 1 ∧ Hid (d = min k (depSs bo))) ∨ (vi = .int .i64 2 ∧ Hid (d = min k (max (depSs bo) (depSs el))))) ∧ vd = .int .i64 d ∧ Hid (Below w.heap.size w wr)) (fun _ vi _ => 2 - (intOf vi).toNat)
  case atStart => exact ⟨0, .inl ⟨rfl, Lib.hid rfl⟩, rfl, Lib.hid (Below.refl _ _)⟩
  case round =>
    obtain ⟨d, ⟨rfl, HD⟩ | ⟨rfl, HD⟩ | ⟨rfl, HD⟩, rfl, HBR⟩ := hrel
    · by_cases hdk : d < k
      · obtain ⟨z, hz⟩ : ∃ z, z = min k (depSs bo) := ⟨_, rfl⟩
        have HZ := Lib.hid hz
        have HC := Lib.hid (HP.out (by omega) bo A1 n1 c1)
        obtain ⟨D, hD⟩ : ∃ D : Nat, D = max d z := ⟨_, rfl⟩
        have HDM := Lib.hid hD
        have HN : Hid (D = min k (depSs bo)) := Lib.hid (by rw [hD]; have h1 := HZ.out; have h2 := HD.out; omega)
        have q0 : wr.cell? ⟨g, 0, none⟩ = some (.slice A1 n1 c1) := (HBR.out.cell (p := ⟨g, 0, none⟩) HG.out).trans H0.out
        have q1 : wr.cell? ⟨g, 1, none⟩ = some (.slice A2 n2 c2) := (HBR.out.cell (p := ⟨g, 1, none⟩) HG.out).trans H1.out
        clear hz hD
        go_wp2_with fail
        refine (HC.out wr (RowS6.more (RowS6.below HR1.out HBR.out) HBR.out.size) (SL.Ins.more (SL.Ins.below HI1.out HBR.out) HBR.out.size)).mono ?_
        rintro f w2 ⟨rfl, hb2⟩
        rw [← HZ.out]
        have HB2 := Lib.hid (HBR.out.trans (hb2.mono HBR.out.size))
        clear hb2 q0 q1
        go_wp2_with fail
        go_roundw
        case rel => exact ⟨D, .inr (.inl ⟨rfl, HN⟩), (by have h := HDM.out; congr 1; split <;> omega), HB2⟩
        case measure => simp [intOf]
      · have HE : Hid (d = min k (max (depSs bo) (depSs el))) := Lib.hid (by have h1 := HD.out; omega)
        have hdk2 : decide (d < k) = false := by simpa using hdk
        clear hdk
        go_wp2_with fail
        go_ret
        rw [← HE.out]
        exact ⟨rfl, HBR.out⟩
    · by_cases hdk : d < k
      · obtain ⟨z, hz⟩ : ∃ z, z = min k (depSs el) := ⟨_, rfl⟩
        have HZ := Lib.hid hz
        have HC := Lib.hid (HP.out (by omega) el A2 n2 c2)
        obtain ⟨D, hD⟩ : ∃ D : Nat, D = max d z := ⟨_, rfl⟩
        have HDM := Lib.hid hD
        have HN : Hid (D = min k (max (depSs bo) (depSs el))) := Lib.hid (by rw [hD]; have h1 := HZ.out; have h2 := HD.out; omega)
        have q0 : wr.cell? ⟨g, 0, none⟩ = some (.slice A1 n1 c1) := (HBR.out.cell (p := ⟨g, 0, none⟩) HG.out).trans H0.out
        have q1 : wr.cell? ⟨g, 1, none⟩ = some (.slice A2 n2 c2) := (HBR.out.cell (p := ⟨g, 1, none⟩) HG.out).trans H1.out
        clear hz hD
        go_wp2_with fail
        refine (HC.out wr (RowS6.more (RowS6.below HR2.out HBR.out) HBR.out.size) (SL.Ins.more (SL.Ins.below HI2.out HBR.out) HBR.out.size)).mono ?_
        rintro f w2 ⟨rfl, hb2⟩
        rw [← HZ.out]
        have HB2 := Lib.hid (HBR.out.trans (hb2.mono HBR.out.size))
        clear hb2 q0 q1
        go_wp2_with fail
        go_roundw
        case rel => exact ⟨D, .inr (.inr ⟨rfl, HN⟩), (by have h := HDM.out; congr 1; split <;> omega), HB2⟩
        case measure => simp [intOf]
      · have HE : Hid (d = min k (max (depSs bo) (depSs el))) := Lib.hid (by have h1 := HD.out; omega)
        have hdk2 : decide (d < k) = false := by simpa using hdk
        clear hdk
        go_wp2_with fail
        go_ret
        rw [← HE.out]
        exact ⟨rfl, HBR.out⟩
    · go_wp2_with fail
      go_ret
      rw [← HD.out]
      exact ⟨rfl, HBR.out⟩

set_option maxRecDepth 100000 in
set_option maxHeartbeats 6400000 in
theorem tdepthWithin_of (k : Nat) (hk : (k : Int) ≤ 100000) (hP : 1 ≤ k → ∀ (ss : List SL) (A : Option Addr) (n c : Nat) (w : World), RowS6 w w.heap.size A n ss → SL.Ins w w.heap.size ss → Calls Try.prog 46 #[.slice A n c, .int .i64 (k : Int)] w fun f w' => f = .returned (.int .i64 ((min k (depSs ss) : Nat) : Int)) ∧ Below w.heap.size w w')
    (s : SL) (w : World) (hin : s.In w w.heap.size) :
    Calls Try.prog 71 #[sVal s, .int .i64 (k : Int)] w fun f w' => f = .returned (.int .i64 ((min k (depS s) : Nat) : Int)) ∧ Below w.heap.size w w' := by
  obtain ⟨hp, hq1, hq2⟩ := hin.parts
  have hr0 := hp.2.2.1.1
  have hi0 := hp.2.2.1.2
  have hr1 := hp.2.2.2.1
  have hr2 := hp.2.2.2.2
  rw [depS_eq]
  obtain ⟨sk, sm, ss, A, n, c, es, A1, n1, c1, bo, A2, n2, c2, el⟩ := s
  change RowE w w.heap.size A n es at hr0
  change EL.Ins w w.heap.size es at hi0
  change RowS6 w w.heap.size A1 n1 bo at hr1
  change RowS6 w w.heap.size A2 n2 el at hr2
  change SL.Ins w w.heap.size bo at hq1
  change SL.Ins w w.heap.size el at hq2
  obtain ⟨x, hx⟩ : ∃ x : Nat, x = min k (depEs es) := ⟨_, rfl⟩
  obtain ⟨y, hy⟩ : ∃ y : Nat, y = min k (max (depSs bo) (depSs el)) := ⟨_, rfl⟩
  have HF : Hid (min k (max (depEs es) (max (depSs bo) (depSs el))) = max x y) := Lib.hid (by omega)
  have HCE : Hid (∀ W : World, Below w.heap.size w W → Calls Try.prog 69 #[.slice A n c, .func (.func 45) #[] #[], .int .i64 (k : Int)] W fun f w' => f = .returned (.int .i64 (x : Int)) ∧ Below W.heap.size W w') := Lib.hid fun W hb => by
    rw [hx]
    exact tgreatestE_of k hk (fun h1 => texprDepth_any k hk h1) es A n c W ((RowE.below hr0 hb).more hb.size) ((EL.Ins.below hi0 hb).more hb.size)
  have HCB : Hid (∀ (g : Nat) (W : World), Below w.heap.size w W → g < W.heap.size → W.cell? ⟨g, 0, none⟩ = some (.slice A1 n1 c1) → W.cell? ⟨g, 1, none⟩ = some (.slice A2 n2 c2) → Calls Try.prog 87 #[.slice (some ⟨g, 0, none⟩) 2 2, .func (.func 46) #[] #[], .int .i64 (k : Int)] W fun f w' => f = .returned (.int .i64 (y : Int)) ∧ Below W.heap.size W w') := Lib.hid fun g W hb hg h0 h1 => by
    rw [hy]
    exact tgreatestB_of k hk hP bo el A1 A2 n1 c1 n2 c2 g W hg h0 h1 ((RowS6.below hr1 hb).more hb.size) ((SL.Ins.below hq1 hb).more hb.size) ((RowS6.below hr2 hb).more hb.size) ((SL.Ins.below hq2 hb).more hb.size)
  show Calls Try.prog _ #[.agg #[.int .i64 sk, .int .i64 sm, .string (bs ss), .slice A n c, .slice A1 n1 c1, .slice A2 n2 c2], .int .i64 (k : Int)] w fun f w' => f = .returned (.int .i64 ((min k (max (depEs es) (max (depSs bo) (depSs el))) : Nat) : Int)) ∧ Below w.heap.size w w'
  rw [HF.out]
  clear hp hin hq1 hq2 hr0 hi0 hr1 hr2 hx hy hP
  go_enter Try.func71, Try.ntmps71
  go_wp2_with fail
  refine (HCE.out _ (((Below.refl _ _).alloc (Nat.le_refl _) _).alloc (by simp) _)).mono ?_
  rintro f w2 ⟨rfl, hb2⟩
  have q0 : w2.cell? ⟨w.heap.size + 1, 0, none⟩ = some (.slice A1 n1 c1) := (hb2.cell (p := ⟨w.heap.size + 1, 0, none⟩) (by simp)).trans (Blk.cell (Blk.new_at _ _ _ (w.heap.size + 1) (by simp)) 0)
  have q1 : w2.cell? ⟨w.heap.size + 1, 1, none⟩ = some (.slice A2 n2 c2) := (hb2.cell (p := ⟨w.heap.size + 1, 1, none⟩) (by simp)).trans (Blk.cell (Blk.new_at _ _ _ (w.heap.size + 1) (by simp)) 1)
  have HG : Hid (w.heap.size + 1 < w2.heap.size) := Lib.hid (by have := hb2.size; simp at this; omega)
  have HB2 : Hid (Below w.heap.size w w2) := Lib.hid ((((Below.refl _ _).alloc (Nat.le_refl _) _).alloc (by simp) _).trans (hb2.mono (by simp; omega)))
  have HQ0 := Lib.hid q0
  have HQ1 := Lib.hid q1
  clear hb2 q0 q1
  go_wp2_with fail
  refine (HCB.out _ _ HB2.out HG.out HQ0.out HQ1.out).mono ?_
  rintro f w3 ⟨rfl, hb3⟩
  go_wp2_with fail
  · go_ret
    exact ⟨by rw [show max x y = y by omega]; rfl, HB2.out.trans (hb3.mono HB2.out.size)⟩
  · go_ret
    exact ⟨by rw [show max x y = x by omega]; rfl, HB2.out.trans (hb3.mono HB2.out.size)⟩

set_option maxRecDepth 100000 in
set_option maxHeartbeats 6400000 in
theorem tblockDepth_any : ∀ (k : Nat), (k : Int) ≤ 100000 → 1 ≤ k → ∀ (ss : List SL) (A : Option Addr) (n c : Nat) (w : World), RowS6 w w.heap.size A n ss → SL.Ins w w.heap.size ss →
    Calls Try.prog 46 #[.slice A n c, .int .i64 (k : Int)] w fun f w' => f = .returned (.int .i64 ((min k (depSs ss) : Nat) : Int)) ∧ Below w.heap.size w w' := by
  intro k
  induction k with
  | zero => intro _ h; omega
  | succ q ih =>
    intro hq _ ss A n c w hrow hins
    have IH := Lib.hid (ih (by omega))
    have hn : ss.length = n := hrow.1
    have hn9 : (n : Int) ≤ 9223372036854775807 := hrow.2.1
    obtain ⟨Q, hQ⟩ : ∃ Q : Nat, Q = q + 1 := ⟨_, rfl⟩
    rw [← hQ]
    have HQ := Lib.hid hQ
    have HQ9 : Hid ((q : Int) ≤ 100000) := Lib.hid (by omega)
    cases hss : ss with
    | nil =>
      subst hss
      obtain rfl : 0 = n := hn
      rw [depSs_nil, Nat.min_zero]
      clear hrow hins hQ hq ih
      go_enter Try.func46, Try.ntmps46
      go_wp2_with fail
      go_ret
      exact ⟨rfl, Below.refl _ _⟩
    | cons x0 r0 =>
      rw [← hss]
      obtain ⟨r, hr⟩ : ∃ r : Nat, r = min q (depMs ss) := ⟨_, rfl⟩
      have hq1 : 1 + (r : Int) ≤ 100001 := by omega
      have hq0 : 0 ≤ (r : Int) := by omega
      have HSS : Hid (min Q (depSs ss) = 1 + r) := Lib.hid (by rw [depSs_eq (by rw [hss]; simp), hQ, hr]; omega)
      have t0 : ((n : Int) == 0) = false := by rw [beq_eq_false_iff_ne]; rw [hss, List.length_cons] at hn; omega
      rw [HSS.out]
      have wq2 : wrap64 ((Q : Int) - 1) = (q : Int) := by rw [IntWalk.wrap64_in _ (by omega)]; omega
      have wq : IntKind.i64.wrap ((Q : Int) - 1) = (q : Int) := by rw [IntKind.wrap_i64]; omega
      have HC : Hid (Calls Try.prog 70 #[.slice A n c, .func (.func 71) #[] #[], .int .i64 (q : Int)] w fun f w' => f = .returned (.int .i64 (r : Int)) ∧ Below w.heap.size w w') := Lib.hid (by
        rw [hr]
        exact tgreatestS_of q HQ9.out (fun h1 => tdepthWithin_of q HQ9.out (fun h1 => IH.out h1)) ss A n c w hrow hins)
      clear ih hrow hins hn hQ hss hq hr
      go_enter Try.func46, Try.ntmps46
      go_wp2_with fail
      clear wq wq2
      refine HC.out.mono ?_
      rintro f w2 ⟨rfl, hb2⟩
      go_wp2_with fail
      go_ret
      exact ⟨by rw [Int.natCast_add]; rfl, hb2⟩

set_option maxRecDepth 100000 in
set_option maxHeartbeats 6400000 in
theorem tDepthBlock_any (ss : List SL) (A : Option Addr) (n c : Nat) (w : World) (hrow : RowS6 w w.heap.size A n ss) (hins : SL.Ins w w.heap.size ss) :
    Calls Try.prog 27 #[.slice A n c] w fun f w' => f = .returned (.int .i64 ((min 65 (depSs ss) : Nat) : Int)) ∧ Below w.heap.size w w' := by
  have HC := Lib.hid (tblockDepth_any 65 (by decide) (by decide) ss A n c w hrow hins)
  obtain ⟨z, hz⟩ : ∃ z, z = min 65 (depSs ss) := ⟨_, rfl⟩
  have HZ := Lib.hid hz
  rw [← hz]
  clear hz hrow hins
  go_enter Try.func27, Try.ntmps27
  go_wp2_with fail
  refine HC.out.mono ?_
  rintro f w2 ⟨rfl, hb2⟩
  rw [← HZ.out]
  go_wp2_with fail
  go_ret
  exact ⟨rfl, hb2⟩

end Go.Proofs.Ytdmpadonnobeaaa
