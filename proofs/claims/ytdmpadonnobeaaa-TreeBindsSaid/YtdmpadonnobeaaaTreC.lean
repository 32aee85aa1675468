/- Contracts of the references' Same and sameArgs over expressions. -/
import Derived.Test.YtdmpadonnobeaaaTreA
import Derived.Lib.Strings
import Derived.Laws.EntriesVeiled
import Derived.Deep.RegionWith
namespace Go.Proofs.Ytdmpadonnobeaaa
open Go.RowKit

theorem bs_list9 (x : List UInt8) : (bs x).toList = x := by rw [ByteArray.toList_eq]; simp [bs]

/-- what Same does, at an expression -/
def SameAt (x : EL) : Prop := ∀ (y : EL) (w : World), x.In w w.heap.size → y.In w w.heap.size → Calls Try.prog 22 #[eVal x, eVal y] w fun f w' => f = .returned (.bool (sameE x y)) ∧ Below w.heap.size w w'

theorem sameEs_no {a b : List EL} {j : Nat} (hl : a.length = b.length) (hj : j < a.length) (h : sameE (a[j]?.getD nilE) (b[j]?.getD nilE) = false) : sameEs a b = false := by
  cases hs : sameEs a b with
  | false => rfl
  | true =>
    have := (sameEs_at hl).1 hs j hj
    rw [h] at this
    cases this

set_option maxRecDepth 100000 in
set_option maxHeartbeats 6400000 in
theorem r10sameArgs_of (es fs : List EL) (hS : ∀ x ∈ es, SameAt x) (A B : Option Addr) (n c m d : Nat) (w : World) (hA : RowE w w.heap.size A n es) (hAi : EL.Ins w w.heap.size es) (hB : RowE w w.heap.size B m fs) (hBi : EL.Ins w w.heap.size fs) :
    Calls Try.prog 44 #[.slice A n c, .slice B m d] w fun f w' => f = .returned (.bool (sameEs es fs)) ∧ Below w.heap.size w w' := by
  have hn := hA.1
  have hm := hB.1
  have hn9 := hA.2.1
  have hm9 := hB.2.1
  by_cases hnm : n = m
  · subst hnm
    have HL := Lib.hid hn
    have HLf := Lib.hid hm
    have HR := Lib.hid hA
    have HA := Lib.hid hAi
    have HRf := Lib.hid hB
    have HAf := Lib.hid hBi
    have HS := Lib.hid hS
    have t0 : ((n : Int) == (n : Int)) = true := by simp
    clear hn hm hA hAi hB hBi hS
    go_enter Try.func44, Try.ntmps44
    go_wp2_with fail
    go_loopw [5] (fun vj wr => ∃ j : Nat, j ≤ n ∧ vj = .int .i64 j ∧ Hid (∀ i, i < j → sameE (es[i]?.getD nilE) (fs[i]?.getD nilE) = true) ∧ Hid (Below w.heap.size w wr)) (fun vj _ => n - (intOf vj).toNat)
    case atStart => exact ⟨0, Nat.zero_le _, rfl, Lib.hid (fun i hi => absurd hi (Nat.not_lt_zero _)), Lib.hid (Below.refl _ _)⟩
    case round =>
      obtain ⟨j, hj, rfl, HSO, HBR⟩ := hrel
      by_cases hlt : j < n
      · have hxjl : j < es.length := by rw [HL.out]; exact hlt
        obtain ⟨xad, rfl, xab, xc⟩ := row_at (HR.out.below HBR.out) hlt
        have hx := HA.out.at hxjl
        have hxmem : (es[j]?.getD nilE) ∈ es := by rw [List.getElem?_eq_getElem hxjl]; exact List.getElem_mem _
        obtain ⟨x, hxe⟩ : ∃ x, x = es[j]?.getD nilE := ⟨_, rfl⟩
        obtain ⟨a0, a1, a2, a3, a4⟩ := xc x hxe
        rw [← hxe] at hx hxmem
        have HXx := Lib.hid hx
        have HEx := Lib.hid hxe
        have HMx := Lib.hid hxmem
        obtain ⟨xk, xo, xm, xs, xA, xn, xc', xes⟩ := x
        change wr.cell? (xad.add (j * 5)) = some (.int .i64 xk) at a0
        change wr.cell? ⟨(xad.add (j * 5)).block, (xad.add (j * 5)).off + 1, none⟩ = some (.int .i64 xo) at a1
        change wr.cell? ⟨(xad.add (j * 5)).block, (xad.add (j * 5)).off + 2, none⟩ = some (.int .i64 xm) at a2
        change wr.cell? ⟨(xad.add (j * 5)).block, (xad.add (j * 5)).off + 3, none⟩ = some (.string (bs xs)) at a3
        change wr.cell? ⟨(xad.add (j * 5)).block, (xad.add (j * 5)).off + 4, none⟩ = some (.slice xA xn xc') at a4
        clear xc hxe hx hxmem hxjl
        have hyjl : j < fs.length := by rw [HLf.out]; exact hlt
        obtain ⟨yad, rfl, yab, yc⟩ := row_at (HRf.out.below HBR.out) hlt
        have hy := HAf.out.at hyjl
        have hymem : (fs[j]?.getD nilE) ∈ fs := by rw [List.getElem?_eq_getElem hyjl]; exact List.getElem_mem _
        obtain ⟨y, hye⟩ : ∃ x, x = fs[j]?.getD nilE := ⟨_, rfl⟩
        obtain ⟨b0, b1, b2, b3, b4⟩ := yc y hye
        rw [← hye] at hy hymem
        have HXy := Lib.hid hy
        have HEy := Lib.hid hye
        have HMy := Lib.hid hymem
        obtain ⟨yk, yo, ym, ys, yA, yn, yc', yes⟩ := y
        change wr.cell? (yad.add (j * 5)) = some (.int .i64 yk) at b0
        change wr.cell? ⟨(yad.add (j * 5)).block, (yad.add (j * 5)).off + 1, none⟩ = some (.int .i64 yo) at b1
        change wr.cell? ⟨(yad.add (j * 5)).block, (yad.add (j * 5)).off + 2, none⟩ = some (.int .i64 ym) at b2
        change wr.cell? ⟨(yad.add (j * 5)).block, (yad.add (j * 5)).off + 3, none⟩ = some (.string (bs ys)) at b3
        change wr.cell? ⟨(yad.add (j * 5)).block, (yad.add (j * 5)).off + 4, none⟩ = some (.slice yA yn yc') at b4
        clear yc hye hy hymem hyjl
        obtain ⟨q, hq⟩ : ∃ q, q = sameE (.mk xk xo xm xs xA xn xc' xes) (.mk yk yo ym ys yA yn yc' yes) := ⟨_, rfl⟩
        have hcall : ∀ W : World, Below wr.heap.size wr W → Calls Try.prog 22 #[.agg #[.int .i64 xk, .int .i64 xo, .int .i64 xm, .string (bs xs), .slice xA xn xc'], .agg #[.int .i64 yk, .int .i64 yo, .int .i64 ym, .string (bs ys), .slice yA yn yc']] W fun f w' => f = .returned (.bool q) ∧ Below W.heap.size W w' := fun W hb => by
          rw [hq]
          have h1 := HBR.out.trans (hb.mono HBR.out.size)
          exact HS.out _ HMx.out _ W (EL.In.more h1.size (HXx.out.below h1)) (EL.In.more h1.size (HXy.out.below h1))
        have HQ := Lib.hid hq
        have HCALL := Lib.hid hcall
        have i1 : 0 ≤ (j : Int) ∧ (j : Int) < (n : Int) := by omega
        clear hq hcall
        cases q with
        | true =>
          have HN : Hid (∀ i, i < j + 1 → sameE (es[i]?.getD nilE) (fs[i]?.getD nilE) = true) := Lib.hid (fun i hi => by
            by_cases e : i = j
            · subst e; rw [← HEx.out, ← HEy.out]; exact HQ.out.symm
            · exact HSO.out i (by omega))
          go_wp2_with fail
          go_region_with (go_at_call 22; refine (HCALL.out _ ?_).mono ?_; first | exact Below.refl _ _ | exact (Below.refl _ _).drew; rintro f w2 ⟨rfl, hb2⟩)
          all_goals
            have HB2 : Hid (Below w.heap.size w w2) := Lib.hid (HBR.out.trans ((Below.trans (Below.drew (Below.refl wr.heap.size wr)) hb2).mono HBR.out.size))
            clear hb2
            go_wp2_with fail
            go_roundw
            case rel => exact ⟨j + 1, by omega, by go_num, HN, HB2⟩
            case measure => simp [intOf]; omega
        | false =>
          have HE : Hid (sameEs es fs = false) := Lib.hid (sameEs_no (by rw [HL.out, HLf.out]) (by rw [HL.out]; exact hlt) (by rw [← HEx.out, ← HEy.out]; exact HQ.out.symm))
          go_wp2_with fail
          go_region_with (go_at_call 22; refine (HCALL.out _ ?_).mono ?_; first | exact Below.refl _ _ | exact (Below.refl _ _).drew; rintro f w2 ⟨rfl, hb2⟩)
          all_goals
            have HB2 : Hid (Below w.heap.size w w2) := Lib.hid (HBR.out.trans ((Below.trans (Below.drew (Below.refl wr.heap.size wr)) hb2).mono HBR.out.size))
            clear hb2
            go_wp2_with fail
            go_ret
            rw [HE.out]
            exact ⟨rfl, HB2.out⟩
      · obtain rfl : j = n := by omega
        have HE : Hid (sameEs es fs = true) := Lib.hid ((sameEs_at (by rw [HL.out, HLf.out])).2 (by rw [HL.out]; exact HSO.out))
        go_wp2_with fail
        go_ret
        rw [HE.out]
        exact ⟨rfl, HBR.out⟩
  · have HE : Hid (sameEs es fs = false) := Lib.hid (by
      cases hs : sameEs es fs with
      | false => rfl
      | true => have := sameEs_len hs; omega)
    have t0 : ((n : Int) == (m : Int)) = false := by rw [beq_eq_false_iff_ne]; omega
    have t1 : ((n : Int) != (m : Int)) = true := by rw [bne_iff_ne]; omega
    clear hA hAi hB hBi hS hn hm hnm
    go_enter Try.func44, Try.ntmps44
    go_wp2_with fail
    go_ret
    rw [HE.out]
    exact ⟨rfl, Below.refl _ _⟩

set_option maxRecDepth 100000 in
set_option maxHeartbeats 6400000 in
theorem r10Same_any : ∀ x : EL, SameAt x := by
  refine EL.ind fun x ih y w hx hy => ?_
  obtain ⟨W, hWd⟩ : ∃ W : World, W = w := ⟨_, rfl⟩
  have hxr := hx.row
  have hxa := hx.args
  have hyr := hy.row
  have hya := hy.args
  rw [sameE_eq]
  obtain ⟨xk, xo, xm, xs, xA, xn, xc', xes⟩ := x
  obtain ⟨yk, yo, ym, ys, yA, yn, yc', yes⟩ := y
  have hargs : ∀ W : World, Below w.heap.size w W → Calls Try.prog 44 #[.slice xA xn xc', .slice yA yn yc'] W fun f w' => f = .returned (.bool (sameEs xes yes)) ∧ Below W.heap.size W w' := fun W hb =>
    r10sameArgs_of xes yes ih xA yA xn xc' yn yc' W ((RowE.below hxr hb).more hb.size) ((EL.Ins.below hxa hb).more hb.size) ((RowE.below hyr hb).more hb.size) ((EL.Ins.below hya hb).more hb.size)
  have HARGS := Lib.hid hargs
  obtain ⟨q, hq⟩ : ∃ q, q = sameEs xes yes := ⟨_, rfl⟩
  have HQ := Lib.hid hq
  obtain ⟨r, hr⟩ : ∃ r, r = (decide (xk = yk) && decide (xo = yo) && decide (xm = ym) && decide (xs = ys)) := ⟨_, rfl⟩
  show Calls Try.prog _ #[.agg #[.int .i64 xk, .int .i64 xo, .int .i64 xm, .string (bs xs), .slice xA xn xc'], .agg #[.int .i64 yk, .int .i64 yo, .int .i64 ym, .string (bs ys), .slice yA yn yc']] w fun f w' => f = .returned (.bool ((decide (xk = yk) && decide (xo = yo) && decide (xm = ym) && decide (xs = ys)) && sameEs xes yes)) ∧ Below w.heap.size w w'
  rw [← hr, ← hq]
  clear ih hx hy hxr hxa hyr hya hargs hq hWd W
  have HR := Lib.hid hr
  clear hr
  obtain ⟨W, hW⟩ : ∃ W, W = ((w.alloc (.cells #[.int .i64 xk, .int .i64 xo, .int .i64 xm, .string (bs xs), .slice xA xn xc'] 24)).alloc (.cells #[.int .i64 yk, .int .i64 yo, .int .i64 ym, .string (bs ys), .slice yA yn yc'] 24)) := ⟨_, rfl⟩
  have HBW : Hid (Below w.heap.size w W) := Lib.hid (by rw [hW]; exact ((Below.refl _ _).alloc (Nat.le_refl _) _).alloc (by simp) _)
  have HWW := Lib.hid hW
  clear hW
  by_cases h1 : xk = yk
  · have t1 : (xk != yk) = false := by simpa using h1
    by_cases h2 : xo = yo
    · have t2 : (xo != yo) = false := by simpa using h2
      by_cases h3 : xm = ym
      · have t3 : (xm != ym) = false := by simpa using h3
        by_cases h4 : xs = ys
        · have HE : Hid (r = true) := Lib.hid (by rw [HR.out]; simp [h1, h2, h3, h4])
          subst h4
          have t4 : ((bs xs).toList == (bs xs).toList) = true := by simp
          clear h1 h2 h3 HR
          go_enter Try.func22, Try.ntmps22
          go_wp2_with fail
          rw [← HWW.out]
          refine (HARGS.out W HBW.out).mono ?_
          rintro f w2 ⟨rfl, hb2⟩
          rw [← HQ.out]
          go_wp2_with fail
          go_ret
          rw [HE.out, Bool.true_and]
          exact ⟨rfl, HBW.out.trans (hb2.mono HBW.out.size)⟩
        · have HE : Hid (r = false) := Lib.hid (by rw [HR.out]; simp [h4])
          have t4 : ((bs xs).toList == (bs ys).toList) = false := beq_eq_false_iff_ne.2 (fun e => h4 (by rw [bs_list9, bs_list9] at e; exact e))
          clear h1 h2 h3 h4 HR
          go_enter Try.func22, Try.ntmps22
          go_wp2_with fail
          go_ret
          rw [HE.out, Bool.false_and]
          exact ⟨rfl, by have := HBW.out; rw [HWW.out] at this; exact this⟩
      · have HE : Hid (r = false) := Lib.hid (by rw [HR.out]; simp [h3])
        have t3 : (xm != ym) = true := by rw [bne_iff_ne]; exact h3
        clear h1 h2 h3 HR
        go_enter Try.func22, Try.ntmps22
        go_wp2_with fail
        go_ret
        rw [HE.out, Bool.false_and]
        exact ⟨rfl, by have := HBW.out; rw [HWW.out] at this; exact this⟩
    · have HE : Hid (r = false) := Lib.hid (by rw [HR.out]; simp [h2])
      have t2 : (xo != yo) = true := by rw [bne_iff_ne]; exact h2
      clear h1 h2 HR
      go_enter Try.func22, Try.ntmps22
      go_wp2_with fail
      go_ret
      rw [HE.out, Bool.false_and]
      exact ⟨rfl, by have := HBW.out; rw [HWW.out] at this; exact this⟩
  · have HE : Hid (r = false) := Lib.hid (by rw [HR.out]; simp [h1])
    have t1 : (xk != yk) = true := by rw [bne_iff_ne]; exact h1
    clear h1 HR
    go_enter Try.func22, Try.ntmps22
    go_wp2_with fail
    go_ret
    rw [HE.out, Bool.false_and]
    exact ⟨rfl, by have := HBW.out; rw [HWW.out] at this; exact this⟩

end Go.Proofs.Ytdmpadonnobeaaa
