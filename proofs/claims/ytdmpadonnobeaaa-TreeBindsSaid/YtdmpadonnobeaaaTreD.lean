/- Contract of the reference's SizeBlock. -/
import Derived.Test.YtdmpadonnobeaaaTreC
import Derived.Deep.RegionHeld3
namespace Go.Proofs.Ytdmpadonnobeaaa
open Go.RowKit

theorem stmt_size : (Try.prog.info? 47).map (·.size) = some 6 := by kernel_rfl
theorem stmt_one (a b : Int) (s : ByteArray) (A : Option Addr) (n m : Nat) (A1 : Option Addr) (n1 m1 : Nat) (A2 : Option Addr) (n2 m2 : Nat) : (#[Value.int .i64 a, .int .i64 b, .string s, .slice A n m, .slice A1 n1 m1, .slice A2 n2 m2]).all (·.oneCell') = true := by simp [Value.oneCell']

/-- an element of a row of statements -/
theorem rowS_at {w : World} {B : Nat} {A : Option Addr} {n : Nat} {ss : List SL} (h : RowS6 w B A n ss) {j : Nat} (hj : j < n) : ∃ ad : Addr, A = some ad ∧ ad.block < B ∧ ∀ x : SL, x = ss[j]?.getD nilS → w.cell? (ad.add (j * 6)) = some (.int .i64 x.kind) ∧
    w.cell? ⟨(ad.add (j * 6)).block, (ad.add (j * 6)).off + 1, none⟩ = some (.int .i64 x.num) ∧ w.cell? ⟨(ad.add (j * 6)).block, (ad.add (j * 6)).off + 2, none⟩ = some (.string (bs x.name)) ∧
    w.cell? ⟨(ad.add (j * 6)).block, (ad.add (j * 6)).off + 3, none⟩ = some (.slice x.A x.n x.c) ∧ w.cell? ⟨(ad.add (j * 6)).block, (ad.add (j * 6)).off + 4, none⟩ = some (.slice x.A1 x.n1 x.c1) ∧
    w.cell? ⟨(ad.add (j * 6)).block, (ad.add (j * 6)).off + 5, none⟩ = some (.slice x.A2 x.n2 x.c2) := by
  obtain ⟨hl, _, hc⟩ := h
  obtain ⟨ad, e, hb, hc⟩ := hc (by omega)
  exact ⟨ad, e, hb, fun x hx => by subst hx; exact hc j (by omega)⟩

/-- what is at hand while a statement's lists are worked on: its block lies behind V's beginning -/
theorem held_cells {V u : World} {g : Nat} {t : TypeId} {cs : Array Value} (hk : Blk V g t cs) (hb : Below V.heap.size V u) (i : Nat) : u.cell? ⟨g, i, none⟩ = cs[i]? := (hk.below hb hk.lt).cell i

set_option maxRecDepth 100000 in
set_option maxHeartbeats 6400000 in
theorem r10SizeBlock_any : ∀ (q : Nat), (q : Int) ≤ 1000000 → ∀ (ss : List SL) (A : Option Addr) (n c : Nat) (w : World), sizeSs ss ≤ q → RowS6 w w.heap.size A n ss → SL.Ins w w.heap.size ss →
    Calls Try.prog 30 #[.slice A n c] w fun f w' => f = .returned (.int .i64 (sizeSs ss : Nat)) ∧ Below w.heap.size w w' := by
  intro q
  induction q with
  | zero =>
    intro _ ss A n c w hz hrow _
    cases ss with
    | nil =>
      obtain rfl : 0 = n := hrow.1
      rw [show sizeSs [] = 0 by unfold sizeSs; rfl]
      go_enter Try.func30, Try.ntmps30
      go_wp2_with fail
      go_loopw [3, 8] (fun vn vi wr => vn = .int .i64 0 ∧ vi = .int .i64 0 ∧ Hid (w = wr)) (fun _ _ _ => 0)
      case atStart => exact ⟨rfl, rfl, Lib.hid rfl⟩
      case round =>
        obtain ⟨rfl, rfl, HW⟩ := hrel
        go_wp2_with fail
        go_ret
        exact ⟨rfl, by rw [HW.out]; exact Below.refl _ _⟩
    | cons x r => rw [sizeSs_cons, sizeS_eq] at hz; omega
  | succ q ih =>
    intro hq ss A n c w hz hrow hins
    have IH := Lib.hid (ih (by omega))
    have hn : ss.length = n := hrow.1
    have hn9 : (n : Int) ≤ 9223372036854775807 := hrow.2.1
    have HR := Lib.hid hrow
    have HA := Lib.hid hins
    have HL := Lib.hid hn
    have HZ := Lib.hid hz
    have hss : (sizeSs ss : Int) ≤ 1000000 := by omega
    have HSS := Lib.hid hss
    clear ih hrow hins hn hz hss
    go_enter Try.func30, Try.ntmps30
    go_wp2_with fail
    go_loopw [3, 8] (fun vn vi wr => ∃ j : Nat, j ≤ n ∧ vi = .int .i64 j ∧ vn = .int .i64 ((sizeSs (ss.take j) : Nat) : Int) ∧ Hid (Below w.heap.size w wr)) (fun _ vi _ => n - (intOf vi).toNat)
    case atStart => exact ⟨0, Nat.zero_le _, rfl, by rw [List.take_zero]; unfold sizeSs; rfl, Lib.hid (Below.refl _ _)⟩
    case round =>
      obtain ⟨j, hj, rfl, rfl, HBR⟩ := hrel
      by_cases hlt : j < n
      · have hst := sizeSs_take (l := ss) (j := j) (by rw [HL.out]; exact hlt)
        have htk : sizeSs (ss.take (j + 1)) ≤ sizeSs ss := by
          have := sizeSs_app (ss.take (j + 1)) (ss.drop (j + 1))
          rw [List.take_append_drop] at this
          omega
        have hxjl : j < ss.length := by rw [HL.out]; exact hlt
        obtain ⟨xad, rfl, xab, xc⟩ := rowS_at (HR.out.below HBR.out) hlt
        have hx := HA.out.at hxjl
        have hxmem : (ss[j]?.getD nilS) ∈ ss := by rw [List.getElem?_eq_getElem hxjl]; exact List.getElem_mem _
        obtain ⟨x, hxe⟩ : ∃ x, x = ss[j]?.getD nilS := ⟨_, rfl⟩
        obtain ⟨a0, a1, a2, a3, a4, a5⟩ := xc x hxe
        rw [← hxe] at hx hxmem
        have HXx := Lib.hid hx
        have HEx := Lib.hid hxe
        have HMx := Lib.hid hxmem
        rw [← hxe, sizeS_eq] at hst
        obtain ⟨hxp, hxq1, hxq2⟩ := hx.parts
        have hxr1 := hxp.2.2.2.1
        have hxr2 := hxp.2.2.2.2
        clear hxp
        obtain ⟨xk, xm, xs, xA, xn, xc', xes, xA1, xn1, xc1, xbo, xA2, xn2, xc2, xel⟩ := x
        change wr.cell? (xad.add (j * 6)) = some (.int .i64 xk) at a0
        change wr.cell? ⟨(xad.add (j * 6)).block, (xad.add (j * 6)).off + 1, none⟩ = some (.int .i64 xm) at a1
        change wr.cell? ⟨(xad.add (j * 6)).block, (xad.add (j * 6)).off + 2, none⟩ = some (.string (bs xs)) at a2
        change wr.cell? ⟨(xad.add (j * 6)).block, (xad.add (j * 6)).off + 3, none⟩ = some (.slice xA xn xc') at a3
        change wr.cell? ⟨(xad.add (j * 6)).block, (xad.add (j * 6)).off + 4, none⟩ = some (.slice xA1 xn1 xc1) at a4
        change wr.cell? ⟨(xad.add (j * 6)).block, (xad.add (j * 6)).off + 5, none⟩ = some (.slice xA2 xn2 xc2) at a5
        clear xc hxe hx hxmem hxjl
        obtain ⟨t, ht⟩ : ∃ t, t = sizeSs (ss.take j) := ⟨_, rfl⟩
        have hst' : sizeSs (ss.take (j + 1)) = sizeSs (ss.take j) + (1 + sizeSs xbo + sizeSs xel) := hst
        obtain ⟨y, hy⟩ : ∃ y, y = sizeSs xbo := ⟨_, rfl⟩
        obtain ⟨z, hz⟩ : ∃ z, z = sizeSs xel := ⟨_, rfl⟩
        rw [← ht, ← hy, ← hz] at hst'
        rw [← ht]
        have hss := HSS.out
        have hzz := HZ.out
        have hcb : ∀ W : World, Below wr.heap.size wr W → Calls Try.prog 30 #[.slice xA1 xn1 xc1] W fun f w' => f = .returned (.int .i64 (y : Nat)) ∧ Below W.heap.size W w' := fun W hb => by
          have h1 := HBR.out.trans (hb.mono HBR.out.size)
          rw [hy]
          exact IH.out xbo xA1 xn1 xc1 W (by omega) ((RowS6.below hxr1 h1).more h1.size) ((SL.Ins.below hxq1 h1).more h1.size)
        have hce : ∀ W : World, Below wr.heap.size wr W → Calls Try.prog 30 #[.slice xA2 xn2 xc2] W fun f w' => f = .returned (.int .i64 (z : Nat)) ∧ Below W.heap.size W w' := fun W hb => by
          have h1 := HBR.out.trans (hb.mono HBR.out.size)
          rw [hz]
          exact IH.out xel xA2 xn2 xc2 W (by omega) ((RowS6.below hxr2 h1).more h1.size) ((SL.Ins.below hxq2 h1).more h1.size)
        have HCB := Lib.hid hcb
        have HCE := Lib.hid hce
        have w1 : IntKind.i64.wrap (1 + (y : Int)) = 1 + (y : Int) := by rw [IntKind.wrap_i64]; omega
        have w2 : IntKind.i64.wrap (1 + (y : Int) + (z : Int)) = 1 + (y : Int) + (z : Int) := by rw [IntKind.wrap_i64]; omega
        have w3 : IntKind.i64.wrap ((t : Int) + (1 + (y : Int) + (z : Int))) = (t : Int) + (1 + (y : Int) + (z : Int)) := by rw [IntKind.wrap_i64]; omega
        have HFIN : Hid ((t : Int) + (1 + (y : Int) + (z : Int)) = ((sizeSs (ss.take (j + 1)) : Nat) : Int)) := Lib.hid (by rw [hst']; omega)
        clear hst hst' htk ht hy hz hss hzz hcb hce hxr1 hxr2 hxq1 hxq2
        go_wp2_with (refine wpList_store_row rfl 47 _ _ rfl wr.heap.size #[.int .i64 xk, .int .i64 xm, .string (bs xs), .slice xA xn xc', .slice xA1 xn1 xc1, .slice xA2 xn2 xc2] rfl rfl _ _ (Blk.new wr _ _) stmt_size rfl (stmt_one _ _ _ _ _ _ _ _ _ _ _ _) ?_; obtain ⟨V, hV⟩ : ∃ V, V = (wr.alloc (.cells #[.int .i64 0, .int .i64 0, .string ⟨#[]⟩, .slice none 0 0, .slice none 0 0, .slice none 0 0] 47)).setRow wr.heap.size #[.int .i64 xk, .int .i64 xm, .string (bs xs), .slice xA xn xc', .slice xA1 xn1 xc1, .slice xA2 xn2 xc2] := ⟨_, rfl⟩; rw [← hV]; obtain ⟨hkV, hbV⟩ := put_row hV; have HKV := Lib.hid hkV; have HBV := Lib.hid hbV; clear hV hkV hbV; have v4 : V.cell? ⟨wr.heap.size, 4, none⟩ = some (.slice xA1 xn1 xc1) := HKV.out.cell 4; have v5 : V.cell? ⟨wr.heap.size, 5, none⟩ = some (.slice xA2 xn2 xc2) := HKV.out.cell 5)
        have START : Hid (Below V.heap.size V V.drew ∧ V.drew.cell? ⟨wr.heap.size, 4, none⟩ = some (.slice xA1 xn1 xc1) ∧ V.drew.cell? ⟨wr.heap.size, 5, none⟩ = some (.slice xA2 xn2 xc2)) := Lib.hid ⟨(Below.refl _ _).drew, v4, v5⟩
        have STEP : Hid (∀ u1 u2 : World, Below u1.heap.size u1 u2 → (Below V.heap.size V u1 ∧ u1.cell? ⟨wr.heap.size, 4, none⟩ = some (.slice xA1 xn1 xc1) ∧ u1.cell? ⟨wr.heap.size, 5, none⟩ = some (.slice xA2 xn2 xc2)) → (Below V.heap.size V u2 ∧ u2.cell? ⟨wr.heap.size, 4, none⟩ = some (.slice xA1 xn1 xc1) ∧ u2.cell? ⟨wr.heap.size, 5, none⟩ = some (.slice xA2 xn2 xc2))) := Lib.hid (fun u1 u2 hb hs => by
          have hb2 := hs.1.trans (hb.mono hs.1.size)
          exact ⟨hb2, held_cells HKV.out hb2 4, held_cells HKV.out hb2 5⟩)
        have PRE : Hid (∀ u : World, (Below V.heap.size V u ∧ u.cell? ⟨wr.heap.size, 4, none⟩ = some (.slice xA1 xn1 xc1) ∧ u.cell? ⟨wr.heap.size, 5, none⟩ = some (.slice xA2 xn2 xc2)) → Below wr.heap.size wr u) := Lib.hid (fun u hs => HBV.out.trans (hs.1.mono HBV.out.size))
        clear v4 v5
        go_region_held3 (fun u => (Below V.heap.size V u ∧ u.cell? ⟨wr.heap.size, 4, none⟩ = some (.slice xA1 xn1 xc1) ∧ u.cell? ⟨wr.heap.size, 5, none⟩ = some (.slice xA2 xn2 xc2))) (first | exact START.out | exact STEP.out _ _ (by assumption) (by assumption))
          (first
            | (go_at_call_of 30 xA1; refine (HCB.out _ ?_).mono ?_; exact PRE.out _ (by assumption); rintro f wz ⟨rfl, hbb⟩)
            | (go_at_call_of 30 xA2; refine (HCE.out _ ?_).mono ?_; exact PRE.out _ (by assumption); rintro f wz ⟨rfl, hbb⟩))
        have HBF : Hid (Below w.heap.size w wz) := Lib.hid (HBR.out.trans ((PRE.out _ (by assumption)).mono HBR.out.size))
        go_wp2_with fail
        go_roundw
        case rel => exact ⟨j + 1, by omega, by go_num, by rw [HFIN.out], HBF⟩
        case measure => simp [intOf]; omega
      · obtain rfl : j = n := by omega
        have HE : Hid (ss.take j = ss) := Lib.hid (List.take_of_length_le (by rw [HL.out]; exact Nat.le_refl _))
        go_wp2_with fail
        go_ret
        rw [HE.out]
        exact ⟨rfl, HBR.out⟩

end Go.Proofs.Ytdmpadonnobeaaa
