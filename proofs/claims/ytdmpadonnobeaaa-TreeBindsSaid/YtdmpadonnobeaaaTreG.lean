/- Contracts of the reference's Few, FewBlock. -/
import Derived.Test.YtdmpadonnobeaaaTreD
namespace Go.Proofs.Ytdmpadonnobeaaa
open Go.RowKit

/- statements and expressions -/
mutual
def totS : SL → Nat
  | .mk _ _ _ _ _ _ args _ _ _ body _ _ _ els => 1 + sizeEs args + totSs body + totSs els
def totSs : List SL → Nat
  | [] => 0
  | x :: r => totS x + totSs r
end
theorem totS_eq (s : SL) : totS s = 1 + sizeEs s.args + totSs s.body + totSs s.els := by
  cases s
  unfold totS
  rfl
theorem totSs_cons (x : SL) (r : List SL) : totSs (x :: r) = totS x + totSs r := by
  conv => lhs; unfold totSs
theorem totSs_app (a b : List SL) : totSs (a ++ b) = totSs a + totSs b := by
  induction a with
  | nil => rw [List.nil_append]; unfold totSs; omega
  | cons x a ih => rw [List.cons_append, totSs_cons, totSs_cons, ih]; omega
theorem totSs_take {l : List SL} {j : Nat} (h : j < l.length) : totSs (l.take (j + 1)) = totSs (l.take j) + totS (l[j]?.getD nilS) := by
  rw [List.take_succ_eq_append_getElem h, totSs_app, List.getElem?_eq_getElem h]
  congr 1
theorem totSs_nil : totSs [] = 0 := by unfold totSs; rfl
theorem sizeEs_nil : sizeEs [] = 0 := by unfold sizeEs; rfl

set_option maxRecDepth 100000 in
set_option maxHeartbeats 6400000 in
theorem r10Few_any : ∀ (e : EL) (m : Int), 0 ≤ m → m ≤ 1000000 → ∀ w : World, e.In w w.heap.size →
    Calls Try.prog 9 #[eVal e, .int .i64 m] w fun f w' => ∃ r : Int, f = .returned (.int .i64 r) ∧ -1 ≤ r ∧ r ≤ m ∧ (0 ≤ r → r + (sizeE e : Nat) = m) ∧ Below w.heap.size w w' := by
  refine EL.ind fun e ih m hm0 hm9 w hin => ?_
  have hrow := hin.row
  have hargs := hin.args
  rw [sizeE_eq]
  obtain ⟨k, o, mm, s, A, n, c, es⟩ := e
  have hn : es.length = n := hrow.1
  have hn9 : (n : Int) ≤ 9223372036854775807 := hrow.2.1
  have HR : Hid (RowE w w.heap.size A n es) := Lib.hid hrow
  have HA : Hid (EL.Ins w w.heap.size es) := Lib.hid hargs
  have HL := Lib.hid hn
  have ih' : ∀ x ∈ es, ∀ (m : Int), 0 ≤ m → m ≤ 1000000 → ∀ w : World, x.In w w.heap.size → Calls Try.prog 9 #[eVal x, .int .i64 m] w fun f w' => ∃ r : Int, f = .returned (.int .i64 r) ∧ -1 ≤ r ∧ r ≤ m ∧ (0 ≤ r → r + (sizeE x : Nat) = m) ∧ Below w.heap.size w w' := ih
  have IH := Lib.hid ih'
  show Calls Try.prog _ #[.agg #[.int .i64 k, .int .i64 o, .int .i64 mm, .string (bs s), .slice A n c], .int .i64 m] w fun f w' => ∃ r : Int, f = .returned (.int .i64 r) ∧ -1 ≤ r ∧ r ≤ m ∧ (0 ≤ r → r + ((1 + sizeEs es : Nat) : Int) = m) ∧ Below w.heap.size w w'
  clear ih ih' hrow hargs hin hn
  have wq : IntKind.i64.wrap (m - 1) = m - 1 := by rw [IntKind.wrap_i64]; omega
  have wq2 : wrap64 (m - 1) = m - 1 := IntWalk.wrap64_in _ (by omega)
  obtain ⟨W, hW⟩ : ∃ W, W = w.alloc (.cells #[.int .i64 k, .int .i64 o, .int .i64 mm, .string (bs s), .slice A n c] 24) := ⟨_, rfl⟩
  have HBW : Hid (Below w.heap.size w W) := Lib.hid (by rw [hW]; exact (Below.refl _ _).alloc (Nat.le_refl _) _)
  go_enter Try.func9, Try.ntmps9
  go_wp2_with fail
  rw [← hW]
  clear hW
  go_loopw [1, 12] (fun vn vi wr => ∃ (j : Nat) (v : Int), j ≤ n ∧ vi = .int .i64 j ∧ vn = .int .i64 v ∧ -1 ≤ v ∧ v ≤ m - 1 ∧ Hid (0 ≤ v → v + ((1 + sizeEs (es.take j) : Nat) : Int) = m) ∧ Hid (Below W.heap.size W wr)) (fun _ vi _ => n - (intOf vi).toNat)
  case atStart => exact ⟨0, m - 1, Nat.zero_le _, rfl, by go_num, by omega, by omega, Lib.hid (fun _ => by rw [List.take_zero, sizeEs_nil]; omega), Lib.hid (Below.refl _ _)⟩
  case round =>
    obtain ⟨j, v, hj, rfl, rfl, hv1, hv2, HV, HB⟩ := hrel
    have HBR := Lib.hid (HBW.out.trans (HB.out.mono HBW.out.size))
    by_cases hlt : j < n
    · have hst := sizeEs_take (l := es) (j := j) (by rw [HL.out]; exact hlt)
      have hxjl : j < es.length := by rw [HL.out]; exact hlt
      obtain ⟨xad, rfl, xab, xc⟩ := row_at (HR.out.below HBR.out) hlt
      have hx := HA.out.at hxjl
      have hxmem : (es[j]?.getD nilE) ∈ es := by rw [List.getElem?_eq_getElem hxjl]; exact List.getElem_mem _
      obtain ⟨x, hxe⟩ : ∃ x, x = es[j]?.getD nilE := ⟨_, rfl⟩
      obtain ⟨a0, a1, a2, a3, a4⟩ := xc x hxe
      rw [← hxe] at hx hxmem
      have HXx := Lib.hid hx
      have HEx := Lib.hid hxe
      have HMx := Lib.hid hxmem
      rw [← hxe] at hst
      have HC := Lib.hid (IH.out _ hxmem)
      obtain ⟨xk, xo, xm, xs, xA, xn, xc', xes⟩ := x
      change wr.cell? (xad.add (j * 5)) = some (.int .i64 xk) at a0
      change wr.cell? ⟨(xad.add (j * 5)).block, (xad.add (j * 5)).off + 1, none⟩ = some (.int .i64 xo) at a1
      change wr.cell? ⟨(xad.add (j * 5)).block, (xad.add (j * 5)).off + 2, none⟩ = some (.int .i64 xm) at a2
      change wr.cell? ⟨(xad.add (j * 5)).block, (xad.add (j * 5)).off + 3, none⟩ = some (.string (bs xs)) at a3
      change wr.cell? ⟨(xad.add (j * 5)).block, (xad.add (j * 5)).off + 4, none⟩ = some (.slice xA xn xc') at a4
      clear xc hxe hx hxmem hxjl
      have HST := Lib.hid hst
      clear hst
      by_cases hneg : v < 0
      · go_wp2_with (refine wpList_store_row rfl 24 _ _ rfl wr.heap.size #[.int .i64 xk, .int .i64 xo, .int .i64 xm, .string (bs xs), .slice xA xn xc'] rfl rfl _ _ (Blk.new wr _ _) expr_size rfl (expr_one _ _ _ _ _ _ _) ?_; obtain ⟨V, hV⟩ : ∃ V, V = (wr.alloc (.cells #[.int .i64 0, .int .i64 0, .int .i64 0, .string ⟨#[]⟩, .slice none 0 0] 24)).setRow wr.heap.size #[.int .i64 xk, .int .i64 xo, .int .i64 xm, .string (bs xs), .slice xA xn xc'] := ⟨_, rfl⟩; rw [← hV]; obtain ⟨hkV, hbV⟩ := put_row hV; have HKV := Lib.hid hkV; have HBV := Lib.hid hbV; clear hV hkV hbV)
        go_ret
        exact ⟨v, rfl, by omega, by omega, by omega, HBR.out.trans (HBV.out.mono HBR.out.size)⟩
      · go_wp2_with (first | (refine wpList_store_row rfl 24 _ _ rfl wr.heap.size #[.int .i64 xk, .int .i64 xo, .int .i64 xm, .string (bs xs), .slice xA xn xc'] rfl rfl _ _ (Blk.new wr _ _) expr_size rfl (expr_one _ _ _ _ _ _ _) ?_; obtain ⟨V, hV⟩ : ∃ V, V = (wr.alloc (.cells #[.int .i64 0, .int .i64 0, .int .i64 0, .string ⟨#[]⟩, .slice none 0 0] 24)).setRow wr.heap.size #[.int .i64 xk, .int .i64 xo, .int .i64 xm, .string (bs xs), .slice xA xn xc'] := ⟨_, rfl⟩; rw [← hV]; obtain ⟨hkV, hbV⟩ := put_row hV; have HKV := Lib.hid hkV; have HBV := Lib.hid hbV; clear hV hkV hbV) | (refine wpList_load_row rfl 24 _ rfl wr.heap.size rfl 24 #[.int .i64 xk, .int .i64 xo, .int .i64 xm, .string (bs xs), .slice xA xn xc'] (0, 0) _ HKV.out Try.underlying24 rfl expr_size ?_))
        have HBV2 := Lib.hid (HBR.out.trans (HBV.out.mono HBR.out.size))
        refine (HC.out v (by omega) (by omega) V (EL.In.more HBV2.out.size (HXx.out.below HBV2.out))).mono ?_
        rintro f w2 ⟨r, rfl, hr1, hr2, hr3, hb2⟩
        have HB2 := Lib.hid (HB.out.trans ((HBV.out.trans (hb2.mono HBV.out.size)).mono HB.out.size))
        have HN : Hid (0 ≤ r → r + ((1 + sizeEs (es.take (j + 1)) : Nat) : Int) = m) := Lib.hid (fun h => by have h1 := HV.out (by omega); have h2 := hr3 h; have h3 := HST.out; omega)
        clear hb2 hr3
        go_wp2_with fail
        go_roundw
        case rel => exact ⟨j + 1, r, by omega, by go_num, rfl, hr1, by omega, HN, HB2⟩
        case measure => simp [intOf]; omega
    · obtain rfl : j = n := by omega
      have HE : Hid (es.take j = es) := Lib.hid (List.take_of_length_le (by rw [HL.out]; exact Nat.le_refl _))
      go_wp2_with fail
      go_ret
      exact ⟨v, rfl, hv1, by omega, by rw [← HE.out]; exact HV.out, HBR.out⟩

set_option maxRecDepth 100000 in
set_option maxHeartbeats 6400000 in
theorem r10FewBlock_any : ∀ (q : Nat), (q : Int) ≤ 1000000 → ∀ (ss : List SL) (m : Int), -9000000 ≤ m → m ≤ q → ∀ (A : Option Addr) (n c : Nat) (w : World), RowS6 w w.heap.size A n ss → SL.Ins w w.heap.size ss →
    Calls Try.prog 13 #[.slice A n c, .int .i64 m] w fun f w' => ∃ r : Int, f = .returned (.int .i64 r) ∧ r ≤ m ∧ (0 ≤ m → -(2 * (q : Int) + 1) ≤ r) ∧ (m < 0 → m - 1 ≤ r) ∧ (0 ≤ r → r + (totSs ss : Nat) = m) ∧ Below w.heap.size w w' := by
  intro q
  induction q using Nat.strongRecOn with
  | ind q ih =>
  intro hq ss m hm0 hmq A n c w hrow hins
  have IH := Lib.hid ih
  have hn : ss.length = n := hrow.1
  have hn9 : (n : Int) ≤ 9223372036854775807 := hrow.2.1
  have HR := Lib.hid hrow
  have HA := Lib.hid hins
  have HL := Lib.hid hn
  clear ih hrow hins hn
  go_enter Try.func13, Try.ntmps13
  go_wp2_with fail
  go_loopw [1, 11] (fun vn vi wr => ∃ (j : Nat) (v : Int), j ≤ n ∧ vi = .int .i64 j ∧ vn = .int .i64 v ∧ v ≤ m ∧ Hid (0 ≤ v → v + (totSs (ss.take j) : Nat) = m) ∧ (m < 0 → v = m) ∧ (0 ≤ m → -(2 * (q : Int)) ≤ v) ∧ Hid (Below w.heap.size w wr)) (fun _ vi _ => n - (intOf vi).toNat)
  case atStart => exact ⟨0, m, Nat.zero_le _, rfl, rfl, by omega, Lib.hid (fun _ => by rw [List.take_zero, totSs_nil]; omega), fun _ => rfl, fun _ => by omega, Lib.hid (Below.refl _ _)⟩
  case round =>
    obtain ⟨j, v, hj, rfl, rfl, hv1, HV, hv2, hv3, HBR⟩ := hrel
    have hv9 : -9100000 ≤ v ∧ v ≤ 1000000 := by
      refine ⟨?_, by omega⟩
      by_cases h : m < 0
      · have := hv2 h; omega
      · have := hv3 (by omega); omega
    have HV2 := Lib.hid hv2
    have HV3 := Lib.hid hv3
    clear hv2 hv3
    by_cases hlt : j < n
    · have wq : IntKind.i64.wrap (v - 1) = v - 1 := by rw [IntKind.wrap_i64]; omega
      have wq2 : wrap64 (v - 1) = v - 1 := IntWalk.wrap64_in _ (by omega)
      have hdt := totSs_take (l := ss) (j := j) (by rw [HL.out]; exact hlt)
      have hxjl : j < ss.length := by rw [HL.out]; exact hlt
      obtain ⟨xad, rfl, xab, xc⟩ := rowS_at (HR.out.below HBR.out) hlt
      have hx := HA.out.at hxjl
      have hxmem : (ss[j]?.getD nilS) ∈ ss := by rw [List.getElem?_eq_getElem hxjl]; exact List.getElem_mem _
      obtain ⟨x, hxe⟩ : ∃ x, x = ss[j]?.getD nilS := ⟨_, rfl⟩
      obtain ⟨a0, a1, a2, a3, a4, a5⟩ := xc x hxe
      rw [← hxe] at hx hxmem
      have HXx := Lib.hid hx
      have HEx := Lib.hid hxe
      have HMx := Lib.hid hxmem
      rw [← hxe, totS_eq] at hdt
      obtain ⟨hxp, hxq1, hxq2⟩ := hx.parts
      have hxr0 := hxp.2.2.1.1
      have hxi0 := hxp.2.2.1.2
      have hxr1 := hxp.2.2.2.1
      have hxr2 := hxp.2.2.2.2
      clear hxp
      obtain ⟨xk, xm, xs, xA, xn, xc', xes, xA1, xn1, xc1, xbo, xA2, xn2, xc2, xel⟩ := x
      change wr.cell? (xad.add (j * 6)) = some (.int .i64 xk) at a0
      change wr.cell? ⟨(xad.add (j * 6)).block, (xad.add (j * 6)).off + 1, none⟩ = some (.int .i64 xm) at a1
      change wr.cell? ⟨(xad.add (j * 6)).block, (xad.add (j * 6)).off + 2, none⟩ = some (.string (bs xs)) at a2
      change wr.cell? ⟨(xad.add (j * 6)).block, (xad.add (j * 6)).off + 3, none⟩ = some (.slice xA xn xc') at a3
      change wr.cell? ⟨(xad.add (j * 6)).block, (xad.add (j * 6)).off + 4, none⟩ = some (.slice xA1 xn1 xc1) at a4
      change wr.cell? ⟨(xad.add (j * 6)).block, (xad.add (j * 6)).off + 5, none⟩ = some (.slice xA2 xn2 xc2) at a5
      clear xc hxe hx hxmem hxjl
      have HDT : Hid (totSs (ss.take (j + 1)) = totSs (ss.take j) + (1 + sizeEs xes + totSs xbo + totSs xel)) := Lib.hid hdt
      have HXR : Hid (RowE w w.heap.size xA xn xes) := Lib.hid hxr0
      have HXI : Hid (EL.Ins w w.heap.size xes) := Lib.hid hxi0
      have hxl : xes.length = xn := hxr0.1
      have hxn9 : (xn : Int) ≤ 9223372036854775807 := hxr0.2.1
      have HXL := Lib.hid hxl
      have hcb : ∀ (p : Nat) (mm : Int) (W : World), p < q → mm ≤ p → -9000000 ≤ mm → Below wr.heap.size wr W → Calls Try.prog 13 #[.slice xA1 xn1 xc1, .int .i64 mm] W fun f w' => ∃ r : Int, f = .returned (.int .i64 r) ∧ r ≤ mm ∧ (0 ≤ mm → -(2 * (p : Int) + 1) ≤ r) ∧ (mm < 0 → mm - 1 ≤ r) ∧ (0 ≤ r → r + (totSs xbo : Nat) = mm) ∧ Below W.heap.size W w' := fun p mm W hp h1 h2 hb => by
        have h3 := HBR.out.trans (hb.mono HBR.out.size)
        exact IH.out p hp (by omega) xbo mm h2 h1 xA1 xn1 xc1 W ((RowS6.below hxr1 h3).more h3.size) ((SL.Ins.below hxq1 h3).more h3.size)
      have hce : ∀ (p : Nat) (mm : Int) (W : World), p < q → mm ≤ p → -9000000 ≤ mm → Below wr.heap.size wr W → Calls Try.prog 13 #[.slice xA2 xn2 xc2, .int .i64 mm] W fun f w' => ∃ r : Int, f = .returned (.int .i64 r) ∧ r ≤ mm ∧ (0 ≤ mm → -(2 * (p : Int) + 1) ≤ r) ∧ (mm < 0 → mm - 1 ≤ r) ∧ (0 ≤ r → r + (totSs xel : Nat) = mm) ∧ Below W.heap.size W w' := fun p mm W hp h1 h2 hb => by
        have h3 := HBR.out.trans (hb.mono HBR.out.size)
        exact IH.out p hp (by omega) xel mm h2 h1 xA2 xn2 xc2 W ((RowS6.below hxr2 h3).more h3.size) ((SL.Ins.below hxq2 h3).more h3.size)
      have HCB := Lib.hid hcb
      have HCE := Lib.hid hce
      clear hdt hcb hce hxr0 hxi0 hxr1 hxr2 hxq1 hxq2 hxl
      obtain ⟨gs, hgs⟩ : ∃ gs, gs = wr.heap.size := ⟨_, rfl⟩
      go_wp2_with (refine wpList_store_row rfl 47 _ _ rfl wr.heap.size #[.int .i64 xk, .int .i64 xm, .string (bs xs), .slice xA xn xc', .slice xA1 xn1 xc1, .slice xA2 xn2 xc2] rfl rfl _ _ (Blk.new wr _ _) stmt_size rfl (stmt_one _ _ _ _ _ _ _ _ _ _ _ _) ?_; obtain ⟨V, hV⟩ : ∃ V, V = (wr.alloc (.cells #[.int .i64 0, .int .i64 0, .string ⟨#[]⟩, .slice none 0 0, .slice none 0 0, .slice none 0 0] 47)).setRow wr.heap.size #[.int .i64 xk, .int .i64 xm, .string (bs xs), .slice xA xn xc', .slice xA1 xn1 xc1, .slice xA2 xn2 xc2] := ⟨_, rfl⟩; rw [← hV]; obtain ⟨hkV, hbV⟩ := put_row hV; have HKV := Lib.hid hkV; have HBV := Lib.hid hbV; clear hV hkV hbV; have v3 : V.cell? ⟨wr.heap.size, 3, none⟩ = some (.slice xA xn xc') := HKV.out.cell 3)
      clear v3
      have HKG : Hid (Blk V gs 47 #[.int .i64 xk, .int .i64 xm, .string (bs xs), .slice xA xn xc', .slice xA1 xn1 xc1, .slice xA2 xn2 xc2]) := Lib.hid (by rw [hgs]; exact HKV.out)
      have HBG := HBV
      rw [← hgs]
      have HGS := Lib.hid hgs
      clear hgs HKV HBV a0 a1 a2 a3 a4 a5
      have HBV0 : Hid (Below w.heap.size w V) := Lib.hid (HBR.out.trans (HBG.out.mono HBR.out.size))
      obtain ⟨U, hU⟩ : ∃ U : World, U = wr := ⟨_, rfl⟩
      rw [← hU] at HBR HBG HCB HCE
      go_loopw [1, 20] (fun vn vi wr => ∃ (i : Nat) (e : Int), i ≤ xn ∧ vi = .int .i64 i ∧ vn = .int .i64 e ∧ e ≤ v - 1 ∧ (v - 1 ≤ e ∨ -1 ≤ e) ∧ Hid (0 ≤ e → e + 1 + (sizeEs (xes.take i) : Nat) = v) ∧ Hid (Below V.heap.size V wr)) (fun _ vi _ => xn - (intOf vi).toNat)
      case atStart => exact ⟨0, v - 1, Nat.zero_le _, rfl, by go_num, by omega, by omega, Lib.hid (fun _ => by rw [List.take_zero, sizeEs_nil]; omega), Lib.hid (Below.refl _ _)⟩
      case round =>
        obtain ⟨i, e, hi, rfl, rfl, he1, he2, HE, HBI⟩ := hrel
        have HBI0 := Lib.hid (HBV0.out.trans (HBI.out.mono HBV0.out.size))
        have HNEG : Hid (e < 0 → e ≤ m ∧ (0 ≤ m → -(2 * (q : Int) + 1) ≤ e) ∧ (m < 0 → m - 1 ≤ e)) := Lib.hid (fun h => by
          have h2 := HV2.out
          have h3 := HV3.out
          exact ⟨by omega, fun h4 => by have := h3 h4; omega, fun h4 => by have := h2 h4; omega⟩)
        by_cases hneg : e < 0
        · by_cases hlt : i < xn
          · skip
            have hyjl : i < xes.length := by rw [HXL.out]; exact hlt
            obtain ⟨yad, rfl, yab, yc⟩ := row_at (HXR.out.below HBI0.out) hlt
            have hy := HXI.out.at hyjl
            have hymem : (xes[i]?.getD nilE) ∈ xes := by rw [List.getElem?_eq_getElem hyjl]; exact List.getElem_mem _
            obtain ⟨y, hye⟩ : ∃ x, x = xes[i]?.getD nilE := ⟨_, rfl⟩
            obtain ⟨b0, b1, b2, b3, b4⟩ := yc y hye
            rw [← hye] at hy hymem
            have HXy := Lib.hid hy
            have HEy := Lib.hid hye
            have HMy := Lib.hid hymem
            obtain ⟨yk, yo, ym, ys, yA, yn, yc', yes⟩ := y
            change wr.cell? (yad.add (i * 5)) = some (.int .i64 yk) at b0
            change wr.cell? ⟨(yad.add (i * 5)).block, (yad.add (i * 5)).off + 1, none⟩ = some (.int .i64 yo) at b1
            change wr.cell? ⟨(yad.add (i * 5)).block, (yad.add (i * 5)).off + 2, none⟩ = some (.int .i64 ym) at b2
            change wr.cell? ⟨(yad.add (i * 5)).block, (yad.add (i * 5)).off + 3, none⟩ = some (.string (bs ys)) at b3
            change wr.cell? ⟨(yad.add (i * 5)).block, (yad.add (i * 5)).off + 4, none⟩ = some (.slice yA yn yc') at b4
            clear yc hye hy hymem hyjl
            go_wp2_with (refine wpList_store_row rfl 24 _ _ rfl wr.heap.size #[.int .i64 yk, .int .i64 yo, .int .i64 ym, .string (bs ys), .slice yA yn yc'] rfl rfl _ _ (Blk.new wr _ _) expr_size rfl (expr_one _ _ _ _ _ _ _) ?_; obtain ⟨V9, hV9⟩ : ∃ V, V = (wr.alloc (.cells #[.int .i64 0, .int .i64 0, .int .i64 0, .string ⟨#[]⟩, .slice none 0 0] 24)).setRow wr.heap.size #[.int .i64 yk, .int .i64 yo, .int .i64 ym, .string (bs ys), .slice yA yn yc'] := ⟨_, rfl⟩; rw [← hV9]; obtain ⟨hkV9, hbV9⟩ := put_row hV9; have HKV9 := Lib.hid hkV9; have HBV9 := Lib.hid hbV9; clear hV9 hkV9 hbV9)
            go_ret
            exact ⟨e, rfl, (HNEG.out hneg).1, (HNEG.out hneg).2.1, (HNEG.out hneg).2.2, by omega, HBI0.out.trans (HBV9.out.mono HBI0.out.size)⟩
          · obtain rfl : i = xn := by omega
            go_wp2_with fail
            go_ret
            exact ⟨e, rfl, (HNEG.out hneg).1, (HNEG.out hneg).2.1, (HNEG.out hneg).2.2, by omega, HBI0.out⟩
        · by_cases hlt : i < xn
          · have hdt := sizeEs_take (l := xes) (j := i) (by rw [HXL.out]; exact hlt)
            have hyjl : i < xes.length := by rw [HXL.out]; exact hlt
            obtain ⟨yad, rfl, yab, yc⟩ := row_at (HXR.out.below HBI0.out) hlt
            have hy := HXI.out.at hyjl
            have hymem : (xes[i]?.getD nilE) ∈ xes := by rw [List.getElem?_eq_getElem hyjl]; exact List.getElem_mem _
            obtain ⟨y, hye⟩ : ∃ x, x = xes[i]?.getD nilE := ⟨_, rfl⟩
            obtain ⟨b0, b1, b2, b3, b4⟩ := yc y hye
            rw [← hye] at hy hymem
            have HXy := Lib.hid hy
            have HEy := Lib.hid hye
            have HMy := Lib.hid hymem
            rw [← hye] at hdt
            obtain ⟨yk, yo, ym, ys, yA, yn, yc', yes⟩ := y
            change wr.cell? (yad.add (i * 5)) = some (.int .i64 yk) at b0
            change wr.cell? ⟨(yad.add (i * 5)).block, (yad.add (i * 5)).off + 1, none⟩ = some (.int .i64 yo) at b1
            change wr.cell? ⟨(yad.add (i * 5)).block, (yad.add (i * 5)).off + 2, none⟩ = some (.int .i64 ym) at b2
            change wr.cell? ⟨(yad.add (i * 5)).block, (yad.add (i * 5)).off + 3, none⟩ = some (.string (bs ys)) at b3
            change wr.cell? ⟨(yad.add (i * 5)).block, (yad.add (i * 5)).off + 4, none⟩ = some (.slice yA yn yc') at b4
            clear yc hye hy hymem hyjl
            have HET := Lib.hid hdt
            have HC := Lib.hid (r10Few_any (.mk yk yo ym ys yA yn yc' yes) e (by omega) (by omega))
            clear hdt
            go_wp2_with (first | (refine wpList_store_row rfl 24 _ _ rfl wr.heap.size #[.int .i64 yk, .int .i64 yo, .int .i64 ym, .string (bs ys), .slice yA yn yc'] rfl rfl _ _ (Blk.new wr _ _) expr_size rfl (expr_one _ _ _ _ _ _ _) ?_; obtain ⟨V9, hV9⟩ : ∃ V, V = (wr.alloc (.cells #[.int .i64 0, .int .i64 0, .int .i64 0, .string ⟨#[]⟩, .slice none 0 0] 24)).setRow wr.heap.size #[.int .i64 yk, .int .i64 yo, .int .i64 ym, .string (bs ys), .slice yA yn yc'] := ⟨_, rfl⟩; rw [← hV9]; obtain ⟨hkV9, hbV9⟩ := put_row hV9; have HKV9 := Lib.hid hkV9; have HBV9 := Lib.hid hbV9; clear hV9 hkV9 hbV9) | (refine wpList_load_row rfl 24 _ rfl wr.heap.size rfl 24 #[.int .i64 yk, .int .i64 yo, .int .i64 ym, .string (bs ys), .slice yA yn yc'] (0, 0) _ HKV9.out Try.underlying24 rfl expr_size ?_))
            have HBV9' := Lib.hid (HBI0.out.trans (HBV9.out.mono HBI0.out.size))
            refine (HC.out V9 (EL.In.more HBV9'.out.size (HXy.out.below HBV9'.out))).mono ?_
            rintro f w2 ⟨r, rfl, hr1, hr2, hr3, hb2⟩
            have HB2 := Lib.hid (HBI.out.trans ((HBV9.out.trans (hb2.mono HBV9.out.size)).mono HBI.out.size))
            have HN : Hid (0 ≤ r → r + 1 + (sizeEs (xes.take (i + 1)) : Nat) = v) := Lib.hid (fun h => by have h1 := HE.out (by omega); have h2 := hr3 h; have h3 := HET.out; omega)
            clear hb2 hr3
            go_wp2_with fail
            go_roundw
            case rel => exact ⟨i + 1, r, by omega, by go_num, rfl, by omega, by omega, HN, HB2⟩
            case measure => simp [intOf]; omega
          · obtain rfl : i = xn := by omega
            have HE2 : Hid (e + 1 + (sizeEs xes : Nat) = v) := Lib.hid (by have h1 := HE.out (by omega); rwa [List.take_of_length_le (by rw [HXL.out]; exact Nat.le_refl _)] at h1)
            have hev : e + 1 ≤ v := by have := HE2.out; omega
            obtain ⟨p, hp⟩ : ∃ p : Nat, (p : Int) = e := ⟨e.toNat, by omega⟩
            have hpq : p < q := by omega
            have START : Hid (Below V.heap.size V wr.drew ∧ wr.drew.cell? ⟨gs, 4, none⟩ = some (.slice xA1 xn1 xc1) ∧ wr.drew.cell? ⟨gs, 5, none⟩ = some (.slice xA2 xn2 xc2)) := Lib.hid ⟨HBI.out.drew, held_cells HKG.out HBI.out 4, held_cells HKG.out HBI.out 5⟩
            have STEP : Hid (∀ u1 u2 : World, Below u1.heap.size u1 u2 → (Below V.heap.size V u1 ∧ u1.cell? ⟨gs, 4, none⟩ = some (.slice xA1 xn1 xc1) ∧ u1.cell? ⟨gs, 5, none⟩ = some (.slice xA2 xn2 xc2)) → (Below V.heap.size V u2 ∧ u2.cell? ⟨gs, 4, none⟩ = some (.slice xA1 xn1 xc1) ∧ u2.cell? ⟨gs, 5, none⟩ = some (.slice xA2 xn2 xc2))) := Lib.hid (fun u1 u2 hb hs => by
              have hb2 := hs.1.trans (hb.mono hs.1.size)
              exact ⟨hb2, held_cells HKG.out hb2 4, held_cells HKG.out hb2 5⟩)
            have PRE : Hid (∀ u : World, (Below V.heap.size V u ∧ u.cell? ⟨gs, 4, none⟩ = some (.slice xA1 xn1 xc1) ∧ u.cell? ⟨gs, 5, none⟩ = some (.slice xA2 xn2 xc2)) → Below U.heap.size U u) := Lib.hid (fun u hs => HBG.out.trans (hs.1.mono HBG.out.size))
            have hc1 : ∀ W : World, Below U.heap.size U W → Calls Try.prog 13 #[.slice xA1 xn1 xc1, .int .i64 e] W fun f w' => ∃ r : Int, f = .returned (.int .i64 r) ∧ r ≤ e ∧ (0 ≤ e → -(2 * (p : Int) + 1) ≤ r) ∧ (e < 0 → e - 1 ≤ r) ∧ (0 ≤ r → r + (totSs xbo : Nat) = e) ∧ Below W.heap.size W w' := fun W hb => HCB.out p e W hpq (by omega) (by omega) hb
            have hc2 : ∀ (mm : Int) (W : World), mm ≤ p → -9000000 ≤ mm → Below U.heap.size U W → Calls Try.prog 13 #[.slice xA2 xn2 xc2, .int .i64 mm] W fun f w' => ∃ r : Int, f = .returned (.int .i64 r) ∧ r ≤ mm ∧ (0 ≤ mm → -(2 * (p : Int) + 1) ≤ r) ∧ (mm < 0 → mm - 1 ≤ r) ∧ (0 ≤ r → r + (totSs xel : Nat) = mm) ∧ Below W.heap.size W w' := fun mm W h1 h2 hb => HCE.out p mm W hpq h1 h2 hb
            have HC1 := Lib.hid hc1
            have HC2 := Lib.hid hc2
            have k4 : wr.cell? ⟨gs, 4, none⟩ = some (.slice xA1 xn1 xc1) := held_cells HKG.out HBI.out 4
            have k5 : wr.cell? ⟨gs, 5, none⟩ = some (.slice xA2 xn2 xc2) := held_cells HKG.out HBI.out 5
            clear hc1 hc2
            go_wp2_with fail
            go_region_held3 (fun u => (Below V.heap.size V u ∧ u.cell? ⟨gs, 4, none⟩ = some (.slice xA1 xn1 xc1) ∧ u.cell? ⟨gs, 5, none⟩ = some (.slice xA2 xn2 xc2))) (first | exact START.out | exact STEP.out _ _ (by assumption) (by assumption))
              (first
                | (go_at_call_of 13 xA1; refine (HC1.out _ ?_).mono ?_; exact PRE.out _ (by assumption); rintro f wz ⟨r1, rfl, ha1, ha2, ha3, ha4, hbb⟩)
                | (go_at_call_of 13 xA2; refine (HC2.out _ _ ?_ ?_ ?_).mono ?_; omega; omega; exact PRE.out _ (by assumption); rintro f wz ⟨r2, rfl, hb1, hb2, hb3, hb4, hbb⟩))
            have HN : Hid (0 ≤ r2 → r2 + (totSs (ss.take (j + 1)) : Nat) = m) := Lib.hid (fun h => by
              have h1 := HV.out (by omega)
              have h2 := HE2.out
              have h3 := HDT.out
              have h4 := hb4 h
              have h5 := ha4 (by omega)
              omega)
            have HBF : Hid (Below w.heap.size w wz) := Lib.hid (HBR.out.trans ((PRE.out _ (by assumption)).mono HBR.out.size))
            have hr2m : r2 ≤ m := by omega
            have hr2n : m < 0 → r2 = m := fun h => by omega
            have hr2l : 0 ≤ m → -(2 * (q : Int)) ≤ r2 := fun h => by omega
            clear hb1 hb2 hb3 hb4 ha1 ha2 ha3 ha4
            go_wp2_with fail
            go_roundw
            case rel => exact ⟨j + 1, r2, by omega, by go_num, rfl, hr2m, HN, hr2n, hr2l, HBF⟩
            case measure => simp [intOf]; omega
    · obtain rfl : j = n := by omega
      have HE : Hid (ss.take j = ss) := Lib.hid (List.take_of_length_le (by rw [HL.out]; exact Nat.le_refl _))
      go_wp2_with fail
      go_ret
      exact ⟨v, rfl, hv1, fun h => by have := HV3.out h; omega, fun h => by have := HV2.out h; omega, by rw [← HE.out]; exact HV.out, HBR.out⟩

end Go.Proofs.Ytdmpadonnobeaaa
