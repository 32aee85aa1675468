/- Contracts of the references' Size, deep, Depth over expressions. -/
import Derived.Test.YtdmpadonnobeaaaRows
import Derived.Test.YtdmpadonnobeaaaTreS
import Derived.Test.YtdmpadonnobeaaaBlk
import Derived.Test.YtdmpadonnobeaaaLexA
import Derived.Deep.QuietTactic
import Derived.BigQuiet
import Derived.Laws.CopyOwn
namespace Go.Proofs.Ytdmpadonnobeaaa
open Go.RowKit
set_option linter.unusedVariables false

theorem expr_size : (Try.prog.info? 24).map (·.size) = some 5 := by kernel_rfl
theorem expr_one (a b c : Int) (s : ByteArray) (A : Option Addr) (n m : Nat) : (#[Value.int .i64 a, .int .i64 b, .int .i64 c, .string s, .slice A n m]).all (·.oneCell') = true := by simp [Value.oneCell']

theorem put_row {W V : World} {cs ds : Array Value} {t : TypeId} (h : V = (W.alloc (.cells cs t)).setRow W.heap.size ds) : Blk V W.heap.size t ds ∧ Below W.heap.size W V := by
  subst h
  exact ⟨setRow_heap _ _ _ _ _ _ (Blk.new W _ _), below_setRow ((Below.refl _ _).alloc (Nat.le_refl _) _) (Nat.le_refl _) _⟩

/-- an element of a row of expressions -/
theorem row_at {w : World} {B : Nat} {A : Option Addr} {n : Nat} {es : List EL} (h : RowE w B A n es) {j : Nat} (hj : j < n) : ∃ ad : Addr, A = some ad ∧ ad.block < B ∧ ∀ x : EL, x = es[j]?.getD nilE → w.cell? (ad.add (j * 5)) = some (.int .i64 x.kind) ∧
    w.cell? ⟨(ad.add (j * 5)).block, (ad.add (j * 5)).off + 1, none⟩ = some (.int .i64 x.op) ∧ w.cell? ⟨(ad.add (j * 5)).block, (ad.add (j * 5)).off + 2, none⟩ = some (.int .i64 x.num) ∧
    w.cell? ⟨(ad.add (j * 5)).block, (ad.add (j * 5)).off + 3, none⟩ = some (.string (bs x.name)) ∧ w.cell? ⟨(ad.add (j * 5)).block, (ad.add (j * 5)).off + 4, none⟩ = some (.slice x.A x.n x.c) := by
  obtain ⟨hl, _, hc⟩ := h
  obtain ⟨ad, e, hb, hc⟩ := hc (by omega)
  exact ⟨ad, e, hb, fun x hx => by subst hx; exact hc j (by omega)⟩

set_option maxRecDepth 100000 in
set_option maxHeartbeats 6400000 in
theorem r10Size_any : ∀ (e : EL), (sizeE e : Int) ≤ 1000000 → ∀ w : World, e.In w w.heap.size →
    Calls Try.prog 28 #[eVal e] w fun f w' => f = .returned (.int .i64 (sizeE e : Nat)) ∧ Below w.heap.size w w' := by
  refine EL.ind fun e ih hsz w hin => ?_
  have hrow := hin.row
  have hargs := hin.args
  rw [sizeE_eq] at hsz ⊢
  obtain ⟨k, o, m, s, A, n, c, es⟩ := e
  have hn : es.length = n := hrow.1
  have hn9 : (n : Int) ≤ 9223372036854775807 := hrow.2.1
  have HR : Hid (RowE w w.heap.size A n es) := Lib.hid hrow
  have HA : Hid (EL.Ins w w.heap.size es) := Lib.hid hargs
  have HL := Lib.hid hn
  have ih' : ∀ x ∈ es, (sizeE x : Int) ≤ 1000000 → ∀ w : World, x.In w w.heap.size → Calls Try.prog 28 #[eVal x] w fun f w' => f = .returned (.int .i64 (sizeE x : Nat)) ∧ Below w.heap.size w w' := ih
  have IH := Lib.hid ih'
  change ((1 + sizeEs es : Nat) : Int) ≤ 1000000 at hsz
  show Calls Try.prog _ #[.agg #[.int .i64 k, .int .i64 o, .int .i64 m, .string (bs s), .slice A n c]] w fun f w' => f = .returned (.int .i64 ((1 + sizeEs es : Nat) : Int)) ∧ Below w.heap.size w w'
  clear ih ih' hrow hargs hin hn
  have HSZ := Lib.hid hsz
  obtain ⟨W, hW⟩ : ∃ W, W = w.alloc (.cells #[.int .i64 k, .int .i64 o, .int .i64 m, .string (bs s), .slice A n c] 24) := ⟨_, rfl⟩
  have HBW : Hid (Below w.heap.size w W) := Lib.hid (by rw [hW]; exact (Below.refl _ _).alloc (Nat.le_refl _) _)
  clear hsz
  go_enter Try.func28, Try.ntmps28
  go_wp2_with fail
  rw [← hW]
  clear hW
  go_loopw [3, 9] (fun vn vi wr => ∃ j : Nat, j ≤ n ∧ vi = .int .i64 j ∧ vn = .int .i64 ((1 + sizeEs (es.take j) : Nat) : Int) ∧ Hid (Below W.heap.size W wr)) (fun _ vi _ => n - (intOf vi).toNat)
  case atStart => exact ⟨0, Nat.zero_le _, rfl, rfl, Lib.hid (Below.refl _ _)⟩
  case round =>
    obtain ⟨j, hj, rfl, rfl, HB⟩ := hrel
    have HBR := Lib.hid (HBW.out.trans (HB.out.mono HBW.out.size))
    by_cases hlt : j < n
    · have hjl : j < es.length := by rw [HL.out]; exact hlt
      obtain ⟨ad, rfl, hab, hc⟩ := row_at (HR.out.below HBR.out) hlt
      have hx := HA.out.at hjl
      have hxs := sizeE_at hjl
      have hst := sizeEs_take hjl
      have htk : sizeEs (es.take (j + 1)) ≤ sizeEs es := by
        have := sizeEs_app (es.take (j + 1)) (es.drop (j + 1))
        rw [List.take_append_drop] at this
        omega
      have hmem : (es[j]?.getD nilE) ∈ es := by rw [List.getElem?_eq_getElem hjl]; exact List.getElem_mem _
      have HC := Lib.hid (IH.out _ hmem)
      obtain ⟨x, hxe⟩ : ∃ x, x = es[j]?.getD nilE := ⟨_, rfl⟩
      obtain ⟨a0, a1, a2, a3, a4⟩ := hc x hxe
      rw [← hxe] at hx hxs hst HC
      have HX := Lib.hid hx
      have hss := HSZ.out
      obtain ⟨t, ht⟩ : ∃ t, t = 1 + sizeEs (es.take j) := ⟨_, rfl⟩
      rw [← ht]
      obtain ⟨z, hz⟩ : ∃ z, z = sizeE x := ⟨_, rfl⟩
      have hxz : (sizeE x : Int) ≤ 1000000 := by omega
      have HXZ := Lib.hid hxz
      rw [← hz] at hst
      have HZ := Lib.hid hz
      have HFIN : Hid (wrap64 ((t : Int) + (z : Int)) = ((1 + sizeEs (es.take (j + 1)) : Nat) : Int)) := Lib.hid (by rw [IntWalk.wrap64_in _ (by omega), hst]; omega)
      obtain ⟨xk, xo, xm, xs, xA, xn, xc, xas⟩ := x
      change wr.cell? (ad.add (j * 5)) = some (.int .i64 xk) at a0
      change wr.cell? ⟨(ad.add (j * 5)).block, (ad.add (j * 5)).off + 1, none⟩ = some (.int .i64 xo) at a1
      change wr.cell? ⟨(ad.add (j * 5)).block, (ad.add (j * 5)).off + 2, none⟩ = some (.int .i64 xm) at a2
      change wr.cell? ⟨(ad.add (j * 5)).block, (ad.add (j * 5)).off + 3, none⟩ = some (.string (bs xs)) at a3
      change wr.cell? ⟨(ad.add (j * 5)).block, (ad.add (j * 5)).off + 4, none⟩ = some (.slice xA xn xc) at a4
      clear hc hxe hst hxs htk hmem hx hz ht hxz hss hjl
      go_wp2_with (first | (refine wpList_store_row rfl 24 _ _ rfl wr.heap.size #[.int .i64 xk, .int .i64 xo, .int .i64 xm, .string (bs xs), .slice xA xn xc] rfl rfl _ _ (Blk.new wr _ _) expr_size rfl (expr_one _ _ _ _ _ _ _) ?_; obtain ⟨V, hV⟩ : ∃ V, V = (wr.alloc (.cells #[.int .i64 0, .int .i64 0, .int .i64 0, .string ⟨#[]⟩, .slice none 0 0] 24)).setRow wr.heap.size #[.int .i64 xk, .int .i64 xo, .int .i64 xm, .string (bs xs), .slice xA xn xc] := ⟨_, rfl⟩; rw [← hV]; obtain ⟨hkV, hbV⟩ := put_row hV; have HKV := Lib.hid hkV; have HBV := Lib.hid hbV; clear hV hkV hbV) | (refine wpList_load_row rfl 24 _ rfl wr.heap.size rfl 24 #[.int .i64 xk, .int .i64 xo, .int .i64 xm, .string (bs xs), .slice xA xn xc] (0, 0) _ HKV.out Try.underlying24 rfl expr_size ?_))
      have HBV2 := Lib.hid (HBR.out.trans (HBV.out.mono HBR.out.size))
      refine (HC.out HXZ.out V (EL.In.more HBV2.out.size (HX.out.below HBV2.out))).mono ?_
      rintro f w2 ⟨rfl, hb2⟩
      rw [← HZ.out]
      have HB2 := Lib.hid (HB.out.trans ((HBV.out.trans (hb2.mono HBV.out.size)).mono HB.out.size))
      clear hb2
      go_wp2_with fail
      go_roundw
      case rel => exact ⟨j + 1, by omega, by go_num, by rw [HFIN.out], HB2⟩
      case measure => simp [intOf]; omega
    · obtain rfl : j = n := by omega
      have HE : Hid (es.take j = es) := Lib.hid (List.take_of_length_le (by rw [HL.out]; exact Nat.le_refl _))
      go_wp2_with fail
      go_ret
      rw [HE.out]
      exact ⟨rfl, HBR.out⟩

theorem min_one_dep (e : EL) : min 1 (depE e) = 1 := by have := depE_pos e; omega

set_option maxRecDepth 100000 in
set_option maxHeartbeats 6400000 in
theorem r10deep_any : ∀ (k : Nat), (k : Int) ≤ 100000 → ∀ (e : EL) (w : World), e.In w w.heap.size →
    Calls Try.prog 47 #[eVal e, .int .i64 ((k + 1 : Nat) : Int)] w fun f w' => f = .returned (.int .i64 ((min (k + 1) (depE e) : Nat) : Int)) ∧ Below w.heap.size w w' := by
  intro k
  induction k with
  | zero =>
    intro _ e w hin
    rw [min_one_dep]
    obtain ⟨k, o, m, s, A, n, c, es⟩ := e
    show Calls Try.prog _ #[.agg #[.int .i64 k, .int .i64 o, .int .i64 m, .string (bs s), .slice A n c], .int .i64 1] w fun f w' => f = .returned (.int .i64 1) ∧ Below w.heap.size w w'
    go_enter Try.func47, Try.ntmps47
    go_wp2_with fail
    go_ret
    exact ⟨rfl, (Below.refl _ _).alloc (Nat.le_refl _) _⟩
  | succ q ih =>
    intro hq e w hin
    have IH := Lib.hid (ih (by omega))
    have hrow := hin.row
    have hargs := hin.args
    rw [depE_eq]
    obtain ⟨k, o, m, s, A, n, c, es⟩ := e
    have hn : es.length = n := hrow.1
    have hn9 : (n : Int) ≤ 9223372036854775807 := hrow.2.1
    have HR : Hid (RowE w w.heap.size A n es) := Lib.hid hrow
    have HA : Hid (EL.Ins w w.heap.size es) := Lib.hid hargs
    have HL := Lib.hid hn
    show Calls Try.prog _ #[.agg #[.int .i64 k, .int .i64 o, .int .i64 m, .string (bs s), .slice A n c], .int .i64 ((q + 1 + 1 : Nat) : Int)] w fun f w' => f = .returned (.int .i64 ((min (q + 1 + 1) (depEs es + 1) : Nat) : Int)) ∧ Below w.heap.size w w'
    clear ih hrow hargs hin hn
    have hqi : (1 : Int) < ((q + 1 + 1 : Nat) : Int) := by omega
    have hqm : ((q + 1 + 1 : Nat) : Int) ≤ 100002 := by omega
    obtain ⟨Q, hQ⟩ : ∃ Q : Nat, Q = q + 1 + 1 := ⟨_, rfl⟩
    rw [← hQ] at hqi hqm ⊢
    have HQ := Lib.hid hQ
    have wq : IntKind.i64.wrap ((Q : Int) - 1) = ((q + 1 : Nat) : Int) := by rw [IntKind.wrap_i64]; omega
    have wq2 : wrap64 ((Q : Int) - 1) = ((q + 1 : Nat) : Int) := by rw [IntWalk.wrap64_in _ (by omega)]; omega
    obtain ⟨W, hW⟩ : ∃ W, W = w.alloc (.cells #[.int .i64 k, .int .i64 o, .int .i64 m, .string (bs s), .slice A n c] 24) := ⟨_, rfl⟩
    have HBW : Hid (Below w.heap.size w W) := Lib.hid (by rw [hW]; exact (Below.refl _ _).alloc (Nat.le_refl _) _)
    clear hq hQ
    go_enter Try.func47, Try.ntmps47
    go_wp2_with fail
    rw [← hW]
    clear hW
    go_loopw [5, 14] (fun vn vi wr => ∃ j d : Nat, j ≤ n ∧ vi = .int .i64 j ∧ vn = .int .i64 d ∧ Hid (d = min (q + 1) (depEs (es.take j))) ∧ Hid (Below W.heap.size W wr)) (fun _ vi _ => n - (intOf vi).toNat)
    case atStart => exact ⟨0, 0, Nat.zero_le _, rfl, rfl, Lib.hid (by rw [List.take_zero]; unfold depEs; omega), Lib.hid (Below.refl _ _)⟩
    case round =>
      obtain ⟨j, d, hj, rfl, rfl, HD, HB⟩ := hrel
      have HBR := Lib.hid (HBW.out.trans (HB.out.mono HBW.out.size))
      by_cases hlt : j < n
      · have hdt := depEs_take (l := es) (j := j) (by rw [HL.out]; exact hlt)
        have hxjl : j < es.length := by rw [HL.out]; exact hlt
        obtain ⟨xad, rfl, xab, xc⟩ := row_at (HR.out.below HBR.out) hlt
        have hx := HA.out.at hxjl
        have hxmem : (es[j]?.getD nilE) ∈ es := by rw [List.getElem?_eq_getElem hxjl]; exact List.getElem_mem _
        obtain ⟨x, hxe⟩ : ∃ x, x = es[j]?.getD nilE := ⟨_, rfl⟩
        obtain ⟨a0, a1, a2, a3, a4⟩ := xc x hxe
        rw [← hxe] at hx hxmem
        have HXx := Lib.hid hx
        have HEx := Lib.hid hxe
        have HMx := Lib.hid hxmem
        rw [← hxe] at hdt
        obtain ⟨xk, xo, xm, xs, xA, xn, xc', xes⟩ := x
        change wr.cell? (xad.add (j * 5)) = some (.int .i64 xk) at a0
        change wr.cell? ⟨(xad.add (j * 5)).block, (xad.add (j * 5)).off + 1, none⟩ = some (.int .i64 xo) at a1
        change wr.cell? ⟨(xad.add (j * 5)).block, (xad.add (j * 5)).off + 2, none⟩ = some (.int .i64 xm) at a2
        change wr.cell? ⟨(xad.add (j * 5)).block, (xad.add (j * 5)).off + 3, none⟩ = some (.string (bs xs)) at a3
        change wr.cell? ⟨(xad.add (j * 5)).block, (xad.add (j * 5)).off + 4, none⟩ = some (.slice xA xn xc') at a4
        clear xc hxe hx hxmem hxjl
        have HDT : Hid (depEs (es.take (j + 1)) = max (depEs (es.take j)) (depE (.mk xk xo xm xs xA xn xc' xes))) := Lib.hid hdt
        obtain ⟨z, hz⟩ : ∃ z, z = min (q + 1) (depE (.mk xk xo xm xs xA xn xc' xes)) := ⟨_, rfl⟩
        have HZ := Lib.hid hz
        have HC := Lib.hid (IH.out (.mk xk xo xm xs xA xn xc' xes))
        clear hdt hz
        go_wp2_with (first | (refine wpList_store_row rfl 24 _ _ rfl wr.heap.size #[.int .i64 xk, .int .i64 xo, .int .i64 xm, .string (bs xs), .slice xA xn xc'] rfl rfl _ _ (Blk.new wr _ _) expr_size rfl (expr_one _ _ _ _ _ _ _) ?_; obtain ⟨V, hV⟩ : ∃ V, V = (wr.alloc (.cells #[.int .i64 0, .int .i64 0, .int .i64 0, .string ⟨#[]⟩, .slice none 0 0] 24)).setRow wr.heap.size #[.int .i64 xk, .int .i64 xo, .int .i64 xm, .string (bs xs), .slice xA xn xc'] := ⟨_, rfl⟩; rw [← hV]; obtain ⟨hkV, hbV⟩ := put_row hV; have HKV := Lib.hid hkV; have HBV := Lib.hid hbV; clear hV hkV hbV) | (refine wpList_load_row rfl 24 _ rfl wr.heap.size rfl 24 #[.int .i64 xk, .int .i64 xo, .int .i64 xm, .string (bs xs), .slice xA xn xc'] (0, 0) _ HKV.out Try.underlying24 rfl expr_size ?_))
        have HBV2 := Lib.hid (HBR.out.trans (HBV.out.mono HBR.out.size))
        refine (HC.out V (EL.In.more HBV2.out.size (HXx.out.below HBV2.out))).mono ?_
        rintro f w2 ⟨rfl, hb2⟩
        rw [← HZ.out]
        have HB2 := Lib.hid (HB.out.trans ((HBV.out.trans (hb2.mono HBV.out.size)).mono HB.out.size))
        clear hb2
        by_cases hgt : d < z
        · have hgi : (d : Int) < (z : Int) := by omega
          have HN : Hid (z = min (q + 1) (depEs (es.take (j + 1)))) := Lib.hid (by rw [HDT.out]; have h1 := HZ.out; have h2 := HD.out; omega)
          clear hgt
          go_wp2_with fail
          go_roundw
          case rel => exact ⟨j + 1, z, by omega, by go_num, rfl, HN, HB2⟩
          case measure => simp [intOf]; omega
        · have hgi : ¬ (d : Int) < (z : Int) := by omega
          have HN : Hid (d = min (q + 1) (depEs (es.take (j + 1)))) := Lib.hid (by rw [HDT.out]; have h1 := HZ.out; have h2 := HD.out; omega)
          clear hgt
          go_wp2_with fail
          go_roundw
          case rel => exact ⟨j + 1, d, by omega, by go_num, rfl, HN, HB2⟩
          case measure => simp [intOf]; omega
      · obtain rfl : j = n := by omega
        have HE : Hid (d = min (q + 1) (depEs es)) := Lib.hid (by rw [HD.out, List.take_of_length_le (by rw [HL.out]; exact Nat.le_refl _)])
        have hd9 : (d : Int) ≤ 100001 := by have h1 := HE.out; have h2 := HQ.out; omega
        have HF : Hid ((d : Int) + 1 = ((min Q (depEs es + 1) : Nat) : Int)) := Lib.hid (by have h1 := HE.out; have h2 := HQ.out; omega)
        have wd : IntKind.i64.wrap ((d : Int) + 1) = (d : Int) + 1 := by rw [IntKind.wrap_i64]; omega
        go_wp2_with fail
        go_ret
        rw [← HF.out]
        exact ⟨rfl, HBR.out⟩

set_option maxRecDepth 100000 in
set_option maxHeartbeats 6400000 in
theorem r10Depth_any (e : EL) (w : World) (hin : e.In w w.heap.size) :
    Calls Try.prog 29 #[eVal e] w fun f w' => f = .returned (.int .i64 ((min 65 (depE e) : Nat) : Int)) ∧ Below w.heap.size w w' := by
  have hc := fun W (h : e.In W W.heap.size) => r10deep_any 64 (by decide) e W h
  have HC := Lib.hid hc
  obtain ⟨k, o, m, s, A, n, c, es⟩ := e
  have HI := Lib.hid hin
  clear hc hin
  obtain ⟨W, hW⟩ : ∃ W, W = w.alloc (.cells #[.int .i64 k, .int .i64 o, .int .i64 m, .string (bs s), .slice A n c] 24) := ⟨_, rfl⟩
  have HBW : Hid (Below w.heap.size w W) := Lib.hid (by rw [hW]; exact (Below.refl _ _).alloc (Nat.le_refl _) _)
  have HK : Hid (Blk W w.heap.size 24 #[.int .i64 k, .int .i64 o, .int .i64 m, .string (bs s), .slice A n c]) := Lib.hid (by rw [hW]; exact Blk.new _ _ _)
  show Calls Try.prog _ #[.agg #[.int .i64 k, .int .i64 o, .int .i64 m, .string (bs s), .slice A n c]] w _
  go_enter Try.func29, Try.ntmps29
  go_wp2_with fail
  rw [← hW]
  clear hW
  refine (HC.out W (EL.In.more HBW.out.size (HI.out.below HBW.out))).mono ?_
  rintro f w2 ⟨rfl, hb2⟩
  go_wp2_with fail
  go_ret
  exact ⟨rfl, HBW.out.trans (hb2.mono HBW.out.size)⟩

end Go.Proofs.Ytdmpadonnobeaaa
