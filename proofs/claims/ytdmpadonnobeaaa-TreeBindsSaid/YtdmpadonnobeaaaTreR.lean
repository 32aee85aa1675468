/- Contracts of the reference's boundBlock, BoundBlock. -/
import Derived.Test.YtdmpadonnobeaaaTreQ
namespace Go.Proofs.Ytdmpadonnobeaaa
open Go.RowKit
set_option linter.unusedSimpArgs false
set_option linter.unusedVariables false

theorem boundSs_all (t : TB) (loc : Int) : ∀ l : List SL, boundSs t loc l = l.all (boundS t loc) := by
  intro l
  induction l with
  | nil => unfold boundSs; rfl
  | cons x r ih => rw [boundSs_cons, ih, List.all_cons]

/-- what a statement of a book needs, but its Args and its lists -/
def headBS (t : TB) (loc : Int) (s : SL) : Bool := (shapeS s).1 && thereS t loc s && (decide (s.kind ≠ 19) || decide ((s.args[0]?.getD nilE).kind = 18))
theorem boundS_head (t : TB) (loc : Int) (s : SL) : boundS t loc s = (headBS t loc s && s.args.all (boundE t loc (decide (s.kind = 1))) && boundBl t loc s.body && boundBl t loc s.els) := by
  rw [boundS_eq]
  unfold okBS headBS boundBl
  rfl

/-- what boundBlock does, at a list of statements -/
def BoundL (T : TV) (loc : Int) (ss : List SL) : Prop := ∀ (A : Option Addr) (n c : Nat) (w : World), T.In w w.heap.size → RowS6 w w.heap.size A n ss → SL.Ins w w.heap.size ss →
    Calls Try.prog 39 #[T.val, .slice A n c, .int .i64 loc] w fun f w' => f = .returned (.bool (boundBl T.tb loc ss)) ∧ Below w.heap.size w w'

set_option maxRecDepth 100000 in
set_option maxHeartbeats 6400000 in
theorem r10boundBlock_of (T : TV) (loc : Int) (hl : -9223372036854775808 ≤ loc ∧ loc ≤ 9223372036854775807) (ss : List SL) (hS : ∀ x ∈ ss, BoundL T loc x.body ∧ BoundL T loc x.els) : BoundL T loc ss := by
  intro A n c w hT hA hAi
  have hn := hA.1
  have hn9 := hA.2.1
  have HL := Lib.hid hn
  have HR := Lib.hid hA
  have HA := Lib.hid hAi
  have hTW : ∀ W : World, Below w.heap.size w W → T.In W W.heap.size := fun W hb => (hT.below hb).more hb.size
  have hbd : ∀ (said : Bool) (e : EL) (W : World), Below w.heap.size w W → e.In W W.heap.size → Calls Try.prog 38 #[T.val, eVal e, .int .i64 loc, .bool said] W fun f w' => f = .returned (.bool (boundE T.tb loc said e)) ∧ Below W.heap.size W w' := fun said e W hb hi => r10bound_any T loc e said W (hTW W hb) hi
  have hth : ∀ (s : SL) (W : World), Below w.heap.size w W → Calls Try.prog 67 #[T.val, sVal s, .int .i64 loc] W fun f w' => f = .returned (.bool (thereS T.tb loc s)) ∧ Below W.heap.size W w' := fun s W hb => r10there_any T loc hl s W (hTW W hb)
  have hS' : ∀ x ∈ ss, (∀ (A : Option Addr) (n c : Nat) (W : World), Below w.heap.size w W → RowS6 W W.heap.size A n x.body → SL.Ins W W.heap.size x.body →
    Calls Try.prog 39 #[T.val, .slice A n c, .int .i64 loc] W fun f w' => f = .returned (.bool (boundBl T.tb loc x.body)) ∧ Below W.heap.size W w') ∧ (∀ (A : Option Addr) (n c : Nat) (W : World), Below w.heap.size w W → RowS6 W W.heap.size A n x.els → SL.Ins W W.heap.size x.els →
    Calls Try.prog 39 #[T.val, .slice A n c, .int .i64 loc] W fun f w' => f = .returned (.bool (boundBl T.tb loc x.els)) ∧ Below W.heap.size W w') := fun x hx =>
    ⟨fun A n c W hb h1 h2 => (hS x hx).1 A n c W (hTW W hb) h1 h2, fun A n c W hb h1 h2 => (hS x hx).2 A n c W (hTW W hb) h1 h2⟩
  obtain ⟨tb, htb⟩ : ∃ tb, tb = T.tb := ⟨_, rfl⟩
  rw [← htb] at hbd hth hS' ⊢
  obtain ⟨t1, t2, t3, t4, S1, m1, k1, fl, S2, m2, k2, S3, m3, k3, S4, m4, k4, S5, m5, k5, S6, m6, k6, S7, m7, k7, S8, m8, k8, S9, m9, k9, S10, m10, k10, fs, ps⟩ := T
  have hbd' : ∀ (said : Bool) (e : EL) (W : World), Below w.heap.size w W → e.In W W.heap.size → Calls Try.prog 38 #[.agg #[.int .i64 t1, .int .i64 t2, .int .i64 t3, .int .i64 t4, .slice S1 m1 k1, .int .i64 fl, .slice S2 m2 k2, .slice S3 m3 k3, .slice S4 m4 k4, .slice S5 m5 k5, .slice S6 m6 k6, .slice S7 m7 k7, .slice S8 m8 k8, .slice S9 m9 k9, .slice S10 m10 k10], eVal e, .int .i64 loc, .bool said] W fun f w' => f = .returned (.bool (boundE tb loc said e)) ∧ Below W.heap.size W w' := hbd
  have hth' : ∀ (s : SL) (W : World), Below w.heap.size w W → Calls Try.prog 67 #[.agg #[.int .i64 t1, .int .i64 t2, .int .i64 t3, .int .i64 t4, .slice S1 m1 k1, .int .i64 fl, .slice S2 m2 k2, .slice S3 m3 k3, .slice S4 m4 k4, .slice S5 m5 k5, .slice S6 m6 k6, .slice S7 m7 k7, .slice S8 m8 k8, .slice S9 m9 k9, .slice S10 m10 k10], sVal s, .int .i64 loc] W fun f w' => f = .returned (.bool (thereS tb loc s)) ∧ Below W.heap.size W w' := hth
  have hS2 : ∀ x ∈ ss, (∀ (A : Option Addr) (n c : Nat) (W : World), Below w.heap.size w W → RowS6 W W.heap.size A n x.body → SL.Ins W W.heap.size x.body →
    Calls Try.prog 39 #[.agg #[.int .i64 t1, .int .i64 t2, .int .i64 t3, .int .i64 t4, .slice S1 m1 k1, .int .i64 fl, .slice S2 m2 k2, .slice S3 m3 k3, .slice S4 m4 k4, .slice S5 m5 k5, .slice S6 m6 k6, .slice S7 m7 k7, .slice S8 m8 k8, .slice S9 m9 k9, .slice S10 m10 k10], .slice A n c, .int .i64 loc] W fun f w' => f = .returned (.bool (boundBl tb loc x.body)) ∧ Below W.heap.size W w') ∧ (∀ (A : Option Addr) (n c : Nat) (W : World), Below w.heap.size w W → RowS6 W W.heap.size A n x.els → SL.Ins W W.heap.size x.els →
    Calls Try.prog 39 #[.agg #[.int .i64 t1, .int .i64 t2, .int .i64 t3, .int .i64 t4, .slice S1 m1 k1, .int .i64 fl, .slice S2 m2 k2, .slice S3 m3 k3, .slice S4 m4 k4, .slice S5 m5 k5, .slice S6 m6 k6, .slice S7 m7 k7, .slice S8 m8 k8, .slice S9 m9 k9, .slice S10 m10 k10], .slice A n c, .int .i64 loc] W fun f w' => f = .returned (.bool (boundBl tb loc x.els)) ∧ Below W.heap.size W w') := hS'
  have HBD := Lib.hid hbd'
  have HTHE := Lib.hid hth'
  have HS := Lib.hid hS2
  obtain ⟨W, hW⟩ : ∃ W, W = w.alloc (.cells #[.int .i64 t1, .int .i64 t2, .int .i64 t3, .int .i64 t4, .slice S1 m1 k1, .int .i64 fl, .slice S2 m2 k2, .slice S3 m3 k3, .slice S4 m4 k4, .slice S5 m5 k5, .slice S6 m6 k6, .slice S7 m7 k7, .slice S8 m8 k8, .slice S9 m9 k9, .slice S10 m10 k10] 37) := ⟨_, rfl⟩
  have HBW : Hid (Below w.heap.size w W) := Lib.hid (by rw [hW]; exact (Below.refl _ _).alloc (Nat.le_refl _) _)
  obtain ⟨gt, hgt⟩ : ∃ gt, gt = w.heap.size := ⟨_, rfl⟩
  have HKT : Hid (Blk W gt 37 #[.int .i64 t1, .int .i64 t2, .int .i64 t3, .int .i64 t4, .slice S1 m1 k1, .int .i64 fl, .slice S2 m2 k2, .slice S3 m3 k3, .slice S4 m4 k4, .slice S5 m5 k5, .slice S6 m6 k6, .slice S7 m7 k7, .slice S8 m8 k8, .slice S9 m9 k9, .slice S10 m10 k10]) := Lib.hid (by rw [hW, hgt]; exact Blk.new _ _ _)
  show Calls Try.prog _ #[.agg #[.int .i64 t1, .int .i64 t2, .int .i64 t3, .int .i64 t4, .slice S1 m1 k1, .int .i64 fl, .slice S2 m2 k2, .slice S3 m3 k3, .slice S4 m4 k4, .slice S5 m5 k5, .slice S6 m6 k6, .slice S7 m7 k7, .slice S8 m8 k8, .slice S9 m9 k9, .slice S10 m10 k10], .slice A n c, .int .i64 loc] w fun f w' => f = .returned (.bool (boundBl tb loc ss)) ∧ Below w.heap.size w w'
  clear hn hA hAi hS hS' hS2 hbd hbd' hth hth' hTW hT htb hl
  go_enter Try.func39, Try.ntmps39
  go_wp2_with fail
  rw [← hW, ← hgt]
  clear hW hgt
  go_loopw [15] (fun vj wr => ∃ j : Nat, j ≤ n ∧ vj = .int .i64 j ∧ Hid (∀ i, i < j → boundS tb loc (ss[i]?.getD nilS) = true) ∧ Hid (Below W.heap.size W wr)) (fun vj _ => n - (intOf vj).toNat)
  case atStart => exact ⟨0, Nat.zero_le _, rfl, Lib.hid (fun i hi => absurd hi (Nat.not_lt_zero _)), Lib.hid (Below.refl _ _)⟩
  case round =>
    obtain ⟨j, hj, rfl, HSO, HBW2⟩ := hrel
    have HBR := Lib.hid (HBW.out.trans (HBW2.out.mono HBW.out.size))
    by_cases hlt : j < n
    · have hjl : j < ss.length := by rw [HL.out]; exact hlt
      have HJL := Lib.hid hjl
      clear hjl
      have hxjl : j < ss.length := by rw [HL.out]; exact hlt
      obtain ⟨xad, rfl, xab, xc⟩ := rowS_at (HR.out.below HBR.out) hlt
      have hx := HA.out.at hxjl
      have hxmem : (ss[j]?.getD nilS) ∈ ss := by rw [List.getElem?_eq_getElem hxjl]; exact List.getElem_mem _
      obtain ⟨x, hxe⟩ : ∃ x, x = ss[j]?.getD nilS := ⟨_, rfl⟩
      obtain ⟨a0, a1, a2, a3, a4, a5⟩ := xc x hxe
      rw [← hxe] at hx hxmem
      have HXx := Lib.hid hx
      have HEx := Lib.hid hxe
      have HMx := Lib.hid hxmem
      obtain ⟨hxp, hxq1, hxq2⟩ := hx.parts
      obtain ⟨hxs1, hxs2⟩ := HS.out _ hxmem
      obtain ⟨xk, xm, xs, xA, xn, xc', xes, xA1, xn1, xc1, xbo, xA2, xn2, xc2, xel⟩ := x
      change wr.cell? (xad.add (j * 6)) = some (.int .i64 xk) at a0
      change wr.cell? ⟨(xad.add (j * 6)).block, (xad.add (j * 6)).off + 1, none⟩ = some (.int .i64 xm) at a1
      change wr.cell? ⟨(xad.add (j * 6)).block, (xad.add (j * 6)).off + 2, none⟩ = some (.string (bs xs)) at a2
      change wr.cell? ⟨(xad.add (j * 6)).block, (xad.add (j * 6)).off + 3, none⟩ = some (.slice xA xn xc') at a3
      change wr.cell? ⟨(xad.add (j * 6)).block, (xad.add (j * 6)).off + 4, none⟩ = some (.slice xA1 xn1 xc1) at a4
      change wr.cell? ⟨(xad.add (j * 6)).block, (xad.add (j * 6)).off + 5, none⟩ = some (.slice xA2 xn2 xc2) at a5
      clear xc hxe hx hxmem hxjl
      have hxr0 : RowE w w.heap.size xA xn xes := hxp.2.2.1.1
      have hxi0 : EL.Ins w w.heap.size xes := hxp.2.2.1.2
      have hxr1 : RowS6 w w.heap.size xA1 xn1 xbo := hxp.2.2.2.1
      have hxr2 : RowS6 w w.heap.size xA2 xn2 xel := hxp.2.2.2.2
      have hxl : xes.length = xn := hxr0.1
      have hxn9 : (xn : Int) ≤ 9223372036854775807 := hxr0.2.1
      have hsh : ∀ W : World, Below wr.heap.size wr W → Calls Try.prog 61 #[.agg #[.int .i64 xk, .int .i64 xm, .string (bs xs), .slice xA xn xc', .slice xA1 xn1 xc1, .slice xA2 xn2 xc2]] W fun f w' => f = .returned (.tuple #[.bool (shapeS (.mk xk xm xs xA xn xc' xes xA1 xn1 xc1 xbo xA2 xn2 xc2 xel)).1, .bool (shapeS (.mk xk xm xs xA xn xc' xes xA1 xn1 xc1 xbo xA2 xn2 xc2 xel)).2]) ∧ Below W.heap.size W w' := fun W hb => by
        have h1 := HBR.out.trans (hb.mono HBR.out.size)
        exact r10shape_any (.mk xk xm xs xA xn xc' xes xA1 xn1 xc1 xbo xA2 xn2 xc2 xel) W ((RowE.below hxr0 h1).more h1.size) ((RowS6.below hxr1 h1).more h1.size) ((RowS6.below hxr2 h1).more h1.size)
      have hthx : ∀ W : World, Below wr.heap.size wr W → Calls Try.prog 67 #[.agg #[.int .i64 t1, .int .i64 t2, .int .i64 t3, .int .i64 t4, .slice S1 m1 k1, .int .i64 fl, .slice S2 m2 k2, .slice S3 m3 k3, .slice S4 m4 k4, .slice S5 m5 k5, .slice S6 m6 k6, .slice S7 m7 k7, .slice S8 m8 k8, .slice S9 m9 k9, .slice S10 m10 k10], .agg #[.int .i64 xk, .int .i64 xm, .string (bs xs), .slice xA xn xc', .slice xA1 xn1 xc1, .slice xA2 xn2 xc2], .int .i64 loc] W fun f w' => f = .returned (.bool (thereS tb loc (.mk xk xm xs xA xn xc' xes xA1 xn1 xc1 xbo xA2 xn2 xc2 xel))) ∧ Below W.heap.size W w' := fun W hb => HTHE.out (.mk xk xm xs xA xn xc' xes xA1 xn1 xc1 xbo xA2 xn2 xc2 xel) W (HBR.out.trans (hb.mono HBR.out.size))
      have hcb : ∀ W : World, Below wr.heap.size wr W → Calls Try.prog 39 #[.agg #[.int .i64 t1, .int .i64 t2, .int .i64 t3, .int .i64 t4, .slice S1 m1 k1, .int .i64 fl, .slice S2 m2 k2, .slice S3 m3 k3, .slice S4 m4 k4, .slice S5 m5 k5, .slice S6 m6 k6, .slice S7 m7 k7, .slice S8 m8 k8, .slice S9 m9 k9, .slice S10 m10 k10], .slice xA1 xn1 xc1, .int .i64 loc] W fun f w' => f = .returned (.bool (boundBl tb loc xbo)) ∧ Below W.heap.size W w' := fun W hb => by
        have h1 := HBR.out.trans (hb.mono HBR.out.size)
        exact hxs1 xA1 xn1 xc1 W h1 ((RowS6.below hxr1 h1).more h1.size) ((SL.Ins.below hxq1 h1).more h1.size)
      have hce : ∀ W : World, Below wr.heap.size wr W → Calls Try.prog 39 #[.agg #[.int .i64 t1, .int .i64 t2, .int .i64 t3, .int .i64 t4, .slice S1 m1 k1, .int .i64 fl, .slice S2 m2 k2, .slice S3 m3 k3, .slice S4 m4 k4, .slice S5 m5 k5, .slice S6 m6 k6, .slice S7 m7 k7, .slice S8 m8 k8, .slice S9 m9 k9, .slice S10 m10 k10], .slice xA2 xn2 xc2, .int .i64 loc] W fun f w' => f = .returned (.bool (boundBl tb loc xel)) ∧ Below W.heap.size W w' := fun W hb => by
        have h1 := HBR.out.trans (hb.mono HBR.out.size)
        exact hxs2 xA2 xn2 xc2 W h1 ((RowS6.below hxr2 h1).more h1.size) ((SL.Ins.below hxq2 h1).more h1.size)
      obtain ⟨p1, hp1⟩ : ∃ p, p = (shapeS (.mk xk xm xs xA xn xc' xes xA1 xn1 xc1 xbo xA2 xn2 xc2 xel)).1 := ⟨_, rfl⟩
      obtain ⟨p2, hp2⟩ : ∃ p, p = (shapeS (.mk xk xm xs xA xn xc' xes xA1 xn1 xc1 xbo xA2 xn2 xc2 xel)).2 := ⟨_, rfl⟩
      obtain ⟨q, hq⟩ : ∃ q, q = thereS tb loc (.mk xk xm xs xA xn xc' xes xA1 xn1 xc1 xbo xA2 xn2 xc2 xel) := ⟨_, rfl⟩
      obtain ⟨b1, hb1⟩ : ∃ b, b = boundBl tb loc xbo := ⟨_, rfl⟩
      obtain ⟨b2, hb2⟩ : ∃ b, b = boundBl tb loc xel := ⟨_, rfl⟩
      obtain ⟨bad, hg⟩ : ∃ g, g = !(p1 && q && (decide (xk ≠ 19) || decide ((xes[0]?.getD nilE).kind = 18))) := ⟨_, rfl⟩
      have hhd : headBS tb loc (.mk xk xm xs xA xn xc' xes xA1 xn1 xc1 xbo xA2 xn2 xc2 xel) = !bad := by rw [hg, Bool.not_not, hp1, hq]; rfl
      have hrs : boundS tb loc (.mk xk xm xs xA xn xc' xes xA1 xn1 xc1 xbo xA2 xn2 xc2 xel) = (!bad && xes.all (boundE tb loc (decide (xk = 1))) && b1 && b2) := by rw [boundS_head, hhd, hb1, hb2]; rfl
      rw [← hp1, ← hp2] at hsh
      rw [← hq] at hthx
      rw [← hb1] at hcb
      rw [← hb2] at hce
      have HSH := Lib.hid hsh
      have HTH := Lib.hid hthx
      have HCB := Lib.hid hcb
      have HCE := Lib.hid hce
      have HP1 := Lib.hid hp1
      have HG := Lib.hid hg
      have HRS := Lib.hid hrs
      have HXR := Lib.hid hxr0
      have HXI := Lib.hid hxi0
      have HXL := Lib.hid hxl
      have HNO : Hid (boundS tb loc (.mk xk xm xs xA xn xc' xes xA1 xn1 xc1 xbo xA2 xn2 xc2 xel) = false → boundBl tb loc ss = false) := Lib.hid (fun h => by
        unfold boundBl
        rw [boundSs_all, all_no (d := nilS) (j := j) HJL.out (by rw [← HEx.out]; exact h), Bool.false_and])
      clear hsh hthx hcb hce hp1 hp2 hq hb1 hb2 hg hhd hrs hxp hxq1 hxq2 hxs1 hxs2 hxr0 hxi0 hxr1 hxr2 hxl
      obtain ⟨gs, hgs⟩ : ∃ gs, gs = wr.heap.size := ⟨_, rfl⟩
      go_wp2_with (refine wpList_store_row rfl 47 _ _ rfl wr.heap.size #[.int .i64 xk, .int .i64 xm, .string (bs xs), .slice xA xn xc', .slice xA1 xn1 xc1, .slice xA2 xn2 xc2] rfl rfl _ _ (Blk.new wr _ _) stmt_size rfl (stmt_one _ _ _ _ _ _ _ _ _ _ _ _) ?_; obtain ⟨V, hV⟩ : ∃ V0, V0 = (wr.alloc (.cells #[.int .i64 0, .int .i64 0, .string ⟨#[]⟩, .slice none 0 0, .slice none 0 0, .slice none 0 0] 47)).setRow wr.heap.size #[.int .i64 xk, .int .i64 xm, .string (bs xs), .slice xA xn xc', .slice xA1 xn1 xc1, .slice xA2 xn2 xc2] := ⟨_, rfl⟩; rw [← hV]; obtain ⟨hkV, hbV⟩ := put_row hV; have HKV := Lib.hid hkV; have HBV := Lib.hid hbV; clear hV hkV hbV; have v0 : V.cell? ⟨wr.heap.size, 0, none⟩ = some (.int .i64 xk) := HKV.out.cell 0; have v1 : V.cell? ⟨wr.heap.size, 1, none⟩ = some (.int .i64 xm) := HKV.out.cell 1; have v2 : V.cell? ⟨wr.heap.size, 2, none⟩ = some (.string (bs xs)) := HKV.out.cell 2; have v3 : V.cell? ⟨wr.heap.size, 3, none⟩ = some (.slice xA xn xc') := HKV.out.cell 3; have v4 : V.cell? ⟨wr.heap.size, 4, none⟩ = some (.slice xA1 xn1 xc1) := HKV.out.cell 4; have v5 : V.cell? ⟨wr.heap.size, 5, none⟩ = some (.slice xA2 xn2 xc2) := HKV.out.cell 5)
      clear v0 v1 v2 v3 v4 v5
      have HK : Hid (Blk V gs 47 #[.int .i64 xk, .int .i64 xm, .string (bs xs), .slice xA xn xc', .slice xA1 xn1 xc1, .slice xA2 xn2 xc2]) := Lib.hid (by rw [hgs]; exact HKV.out)
      rw [← hgs]
      clear hgs HKV a0 a1 a2 a3 a4 a5
      refine (HSH.out V HBV.out).mono ?_
      rintro f U ⟨rfl, hbu⟩
      have HBV2 : Hid (Below V.heap.size V U) := Lib.hid hbu
      have HBU0 := Lib.hid (HBV.out.trans (HBV2.out.mono HBV.out.size))
      have HBU := Lib.hid (HBR.out.trans (HBU0.out.mono HBR.out.size))
      have HWU := Lib.hid (HBW2.out.trans (HBU0.out.mono HBW2.out.size))
      clear hbu
      go_upto_region 5 with fail
      have kk0 : U.cell? ⟨gs, 0, none⟩ = some (.int .i64 xk) := held_cells HK.out HBV2.out 0
      have kk1 : U.cell? ⟨gs, 1, none⟩ = some (.int .i64 xm) := held_cells HK.out HBV2.out 1
      have kk2 : U.cell? ⟨gs, 2, none⟩ = some (.string (bs xs)) := held_cells HK.out HBV2.out 2
      have kk3 : U.cell? ⟨gs, 3, none⟩ = some (.slice xA xn xc') := held_cells HK.out HBV2.out 3
      have kk4 : U.cell? ⟨gs, 4, none⟩ = some (.slice xA1 xn1 xc1) := held_cells HK.out HBV2.out 4
      have kk5 : U.cell? ⟨gs, 5, none⟩ = some (.slice xA2 xn2 xc2) := held_cells HK.out HBV2.out 5
      go_cut [45] from 24 to 44 (fun v wx => v = .bool bad ∧ Below U.heap.size U wx)
      case first =>
        cases p1 with
        | false =>
          have e1 : bad = true := by rw [HG.out]; simp [Bool.false_and]
          have HE1 := Lib.hid e1
          clear e1
          go_wp2_with fail
          go_meet
          case rel => exact ⟨by rw [HE1.out] <;> rfl, Below.refl _ _⟩
        | true =>
          have HS1 : Hid (xk = 19 → xes.length = 1) := Lib.hid (fun h => shape_call (s := (.mk xk xm xs xA xn xc' xes xA1 xn1 xc1 xbo xA2 xn2 xc2 xel)) (by rw [← HP1.out]) h)
          have u0 : U.cell? ⟨gt, 0, none⟩ = some (.int .i64 t1) := (HKT.out.below HWU.out HKT.out.lt).cell 0
          have u1 : U.cell? ⟨gt, 1, none⟩ = some (.int .i64 t2) := (HKT.out.below HWU.out HKT.out.lt).cell 1
          have u2 : U.cell? ⟨gt, 2, none⟩ = some (.int .i64 t3) := (HKT.out.below HWU.out HKT.out.lt).cell 2
          have u3 : U.cell? ⟨gt, 3, none⟩ = some (.int .i64 t4) := (HKT.out.below HWU.out HKT.out.lt).cell 3
          have u4 : U.cell? ⟨gt, 4, none⟩ = some (.slice S1 m1 k1) := (HKT.out.below HWU.out HKT.out.lt).cell 4
          have u5 : U.cell? ⟨gt, 5, none⟩ = some (.int .i64 fl) := (HKT.out.below HWU.out HKT.out.lt).cell 5
          have u6 : U.cell? ⟨gt, 6, none⟩ = some (.slice S2 m2 k2) := (HKT.out.below HWU.out HKT.out.lt).cell 6
          have u7 : U.cell? ⟨gt, 7, none⟩ = some (.slice S3 m3 k3) := (HKT.out.below HWU.out HKT.out.lt).cell 7
          have u8 : U.cell? ⟨gt, 8, none⟩ = some (.slice S4 m4 k4) := (HKT.out.below HWU.out HKT.out.lt).cell 8
          have u9 : U.cell? ⟨gt, 9, none⟩ = some (.slice S5 m5 k5) := (HKT.out.below HWU.out HKT.out.lt).cell 9
          have u10 : U.cell? ⟨gt, 10, none⟩ = some (.slice S6 m6 k6) := (HKT.out.below HWU.out HKT.out.lt).cell 10
          have u11 : U.cell? ⟨gt, 11, none⟩ = some (.slice S7 m7 k7) := (HKT.out.below HWU.out HKT.out.lt).cell 11
          have u12 : U.cell? ⟨gt, 12, none⟩ = some (.slice S8 m8 k8) := (HKT.out.below HWU.out HKT.out.lt).cell 12
          have u13 : U.cell? ⟨gt, 13, none⟩ = some (.slice S9 m9 k9) := (HKT.out.below HWU.out HKT.out.lt).cell 13
          have u14 : U.cell? ⟨gt, 14, none⟩ = some (.slice S10 m10 k10) := (HKT.out.below HWU.out HKT.out.lt).cell 14
          go_wp2_with fail
          refine (HTH.out U HBU0.out).mono ?_
          rintro f w3 ⟨rfl, hb3⟩
          have HB3 : Hid (Below U.heap.size U w3) := Lib.hid hb3
          clear hb3 kk0 kk1 kk2 kk3 kk4 kk5
          clear u0 u1 u2 u3 u4 u5 u6 u7 u8 u9 u10 u11 u12 u13 u14
          cases q with
          | false =>
            have e1 : bad = true := by rw [HG.out]; simp [Bool.and_false, Bool.false_and]
            have HE1 := Lib.hid e1
            clear e1
            go_wp2_with fail
            go_meet
            case rel => exact ⟨by rw [HE1.out] <;> rfl, HB3.out⟩
          | true =>
            have HV3 := Lib.hid (HBV2.out.trans (HB3.out.mono HBV2.out.size))
            have HU3 := Lib.hid (HBU.out.trans (HB3.out.mono HBU.out.size))
            have l0 : w3.cell? ⟨gs, 0, none⟩ = some (.int .i64 xk) := held_cells HK.out HV3.out 0
            have l3 : w3.cell? ⟨gs, 3, none⟩ = some (.slice xA xn xc') := held_cells HK.out HV3.out 3
            by_cases h19 : xk = 19
            · have t19 : (xk == 19) = true := by rw [beq_iff_eq]; exact h19
              have hx1 := HS1.out h19
              have hx0 : 0 < xn := by have := HXL.out; omega
              obtain ⟨zad, hzA, zab, zc⟩ := row_at (HXR.out.below HU3.out) hx0
              obtain ⟨z, hze⟩ : ∃ z, z = xes[0]?.getD nilE := ⟨_, rfl⟩
              have z0 := (zc z hze).1
              obtain ⟨zk, hzk⟩ : ∃ zk, zk = z.kind := ⟨_, rfl⟩
              rw [← hzk, Nat.zero_mul, addr_zero] at z0
              have hz1 : (xes[0]?.getD nilE).kind = zk := by rw [← hze, hzk]
              have i0 : (0 : Int) < (xn : Int) := by omega
              subst hzA
              by_cases h9 : zk = 18
              · have t9 : (zk != 18) = false := by simpa using h9
                rw [← hz1] at h9
                clear zc hze hzk hz1 hx0 hx1
                have e1 : bad = false := by rw [HG.out]; simp [h19, h9]
                have HE1 := Lib.hid e1
                clear e1 h19 h9
                go_wp2_with fail
                go_meet
                case rel => exact ⟨by rw [HE1.out] <;> rfl, HB3.out⟩
              · have t9 : (zk != 18) = true := by rw [bne_iff_ne]; exact h9
                rw [← hz1] at h9
                clear zc hze hzk hz1 hx0 hx1
                have e1 : bad = true := by rw [HG.out]; simp [h19, h9]
                have HE1 := Lib.hid e1
                clear e1 h19 h9
                go_wp2_with fail
                go_meet
                case rel => exact ⟨by rw [HE1.out] <;> rfl, HB3.out⟩
            · have t19 : (xk == 19) = false := by rw [beq_eq_false_iff_ne]; exact h19
              have e1 : bad = false := by rw [HG.out]; simp [h19]
              have HE1 := Lib.hid e1
              clear e1 h19
              go_wp2_with fail
              go_meet
              case rel => exact ⟨by rw [HE1.out] <;> rfl, HB3.out⟩

      case rest =>
        obtain ⟨rfl, hbc⟩ := hcut
        have HBC := Lib.hid hbc
        have HVC := Lib.hid (HBV2.out.trans (HBC.out.mono HBV2.out.size))
        have HWC := Lib.hid (HBV.out.trans (HVC.out.mono HBV.out.size))
        have HCW := Lib.hid (HBR.out.trans (HWC.out.mono HBR.out.size))
        have HCW2 := Lib.hid (HBW2.out.trans (HWC.out.mono HBW2.out.size))
        clear kk0 kk1 kk2 kk3 kk4 kk5 hbc
        cases bad with
        | true =>
          have HE : Hid (boundBl tb loc ss = false) := Lib.hid (HNO.out (by rw [HRS.out]; rfl))
          go_wp2_with fail
          go_ret
          rw [HE.out]
          exact ⟨rfl, HCW.out⟩
        | false =>
          obtain ⟨said, hsaid⟩ : ∃ b, b = decide (xk = 1) := ⟨_, rfl⟩
          have tsaid : (xk == 1) = said := by rw [hsaid]; rfl
          rw [← hsaid] at HRS
          clear hsaid
          have kk3 : wc.cell? ⟨gs, 3, none⟩ = some (.slice xA xn xc') := held_cells HK.out HVC.out 3
          go_wp2_with fail
          go_loopw [49] (fun vi wr => ∃ i : Nat, i ≤ xn ∧ vi = .int .i64 i ∧ Hid (∀ i', i' < i → boundE tb loc said (xes[i']?.getD nilE) = true) ∧ Hid (Below wc.heap.size wc wr)) (fun vi _ => xn - (intOf vi).toNat)
          case atStart => exact ⟨0, Nat.zero_le _, rfl, Lib.hid (fun i hi => absurd hi (Nat.not_lt_zero _)), Lib.hid (Below.refl _ _)⟩
          case round =>
            obtain ⟨i, hi, rfl, HSI, HBI⟩ := hrel
            have HBI0 := Lib.hid (HCW.out.trans (HBI.out.mono HCW.out.size))
            have HIW := Lib.hid (HCW2.out.trans (HBI.out.mono HCW2.out.size))
            have HVI := Lib.hid (HVC.out.trans (HBI.out.mono HVC.out.size))
            by_cases hlt : i < xn
            · have hil : i < xes.length := by rw [HXL.out]; exact hlt
              have HIL := Lib.hid hil
              clear hil
              have hyjl : i < xes.length := by rw [HXL.out]; exact hlt
              obtain ⟨yad, rfl, yab, yc⟩ := row_at (HXR.out.below HBI0.out) hlt
              have hy := HXI.out.at hyjl
              have hymem : (xes[i]?.getD nilE) ∈ xes := by rw [List.getElem?_eq_getElem hyjl]; exact List.getElem_mem _
              obtain ⟨y, hye⟩ : ∃ x, x = xes[i]?.getD nilE := ⟨_, rfl⟩
              obtain ⟨b0, b1, b2, b3, b4⟩ := yc y hye
              rw [← hye] at hy hymem
              have HXy := Lib.hid hy
              have HEy := Lib.hid hye
              have HMy := Lib.hid hymem
              obtain ⟨yk, yo, ym, ys, yA, yn, yc', yes⟩ := y
              change wr.cell? (yad.add (i * 5)) = some (.int .i64 yk) at b0
              change wr.cell? ⟨(yad.add (i * 5)).block, (yad.add (i * 5)).off + 1, none⟩ = some (.int .i64 yo) at b1
              change wr.cell? ⟨(yad.add (i * 5)).block, (yad.add (i * 5)).off + 2, none⟩ = some (.int .i64 ym) at b2
              change wr.cell? ⟨(yad.add (i * 5)).block, (yad.add (i * 5)).off + 3, none⟩ = some (.string (bs ys)) at b3
              change wr.cell? ⟨(yad.add (i * 5)).block, (yad.add (i * 5)).off + 4, none⟩ = some (.slice yA yn yc') at b4
              clear yc hye hy hymem hyjl
              have hc := HBD.out said (.mk yk yo ym ys yA yn yc' yes)
              obtain ⟨r, hr⟩ : ∃ r, r = boundE tb loc said (.mk yk yo ym ys yA yn yc' yes) := ⟨_, rfl⟩
              rw [← hr] at hc
              have HC := Lib.hid hc
              have HR2 := Lib.hid hr
              clear hc hr
              go_wp2_with (refine wpList_store_row rfl 24 _ _ rfl wr.heap.size #[.int .i64 yk, .int .i64 yo, .int .i64 ym, .string (bs ys), .slice yA yn yc'] rfl rfl _ _ (Blk.new wr _ _) expr_size rfl (expr_one _ _ _ _ _ _ _) ?_; obtain ⟨V9, hV9⟩ : ∃ V0, V0 = (wr.alloc (.cells #[.int .i64 0, .int .i64 0, .int .i64 0, .string ⟨#[]⟩, .slice none 0 0] 24)).setRow wr.heap.size #[.int .i64 yk, .int .i64 yo, .int .i64 ym, .string (bs ys), .slice yA yn yc'] := ⟨_, rfl⟩; rw [← hV9]; obtain ⟨hkV9, hbV9⟩ := put_row hV9; have HKV9 := Lib.hid hkV9; have HBV9 := Lib.hid hbV9; clear hV9 hkV9 hbV9; have g0 : V9.cell? ⟨gs, 0, none⟩ = some (.int .i64 xk) := held_cells HK.out (HVI.out.trans (HBV9.out.mono HVI.out.size)) 0; have vv0 : V9.cell? ⟨wr.heap.size, 0, none⟩ = some (.int .i64 yk) := HKV9.out.cell 0; have vv1 : V9.cell? ⟨wr.heap.size, 1, none⟩ = some (.int .i64 yo) := HKV9.out.cell 1; have vv2 : V9.cell? ⟨wr.heap.size, 2, none⟩ = some (.int .i64 ym) := HKV9.out.cell 2; have vv3 : V9.cell? ⟨wr.heap.size, 3, none⟩ = some (.string (bs ys)) := HKV9.out.cell 3; have vv4 : V9.cell? ⟨wr.heap.size, 4, none⟩ = some (.slice yA yn yc') := HKV9.out.cell 4; have HTV9 := Lib.hid (HKT.out.below (HIW.out.trans (HBV9.out.mono HIW.out.size)) HKT.out.lt); have y0 : V9.cell? ⟨gt, 0, none⟩ = some (.int .i64 t1) := HTV9.out.cell 0; have y1 : V9.cell? ⟨gt, 1, none⟩ = some (.int .i64 t2) := HTV9.out.cell 1; have y2 : V9.cell? ⟨gt, 2, none⟩ = some (.int .i64 t3) := HTV9.out.cell 2; have y3 : V9.cell? ⟨gt, 3, none⟩ = some (.int .i64 t4) := HTV9.out.cell 3; have y4 : V9.cell? ⟨gt, 4, none⟩ = some (.slice S1 m1 k1) := HTV9.out.cell 4; have y5 : V9.cell? ⟨gt, 5, none⟩ = some (.int .i64 fl) := HTV9.out.cell 5; have y6 : V9.cell? ⟨gt, 6, none⟩ = some (.slice S2 m2 k2) := HTV9.out.cell 6; have y7 : V9.cell? ⟨gt, 7, none⟩ = some (.slice S3 m3 k3) := HTV9.out.cell 7; have y8 : V9.cell? ⟨gt, 8, none⟩ = some (.slice S4 m4 k4) := HTV9.out.cell 8; have y9 : V9.cell? ⟨gt, 9, none⟩ = some (.slice S5 m5 k5) := HTV9.out.cell 9; have y10 : V9.cell? ⟨gt, 10, none⟩ = some (.slice S6 m6 k6) := HTV9.out.cell 10; have y11 : V9.cell? ⟨gt, 11, none⟩ = some (.slice S7 m7 k7) := HTV9.out.cell 11; have y12 : V9.cell? ⟨gt, 12, none⟩ = some (.slice S8 m8 k8) := HTV9.out.cell 12; have y13 : V9.cell? ⟨gt, 13, none⟩ = some (.slice S9 m9 k9) := HTV9.out.cell 13; have y14 : V9.cell? ⟨gt, 14, none⟩ = some (.slice S10 m10 k10) := HTV9.out.cell 14)
              clear g0 vv0 vv1 vv2 vv3 vv4 y0 y1 y2 y3 y4 y5 y6 y7 y8 y9 y10 y11 y12 y13 y14
              have HBV9' := Lib.hid (HBI0.out.trans (HBV9.out.mono HBI0.out.size))
              refine (HC.out V9 HBV9'.out (EL.In.more HBV9'.out.size (HXy.out.below HBV9'.out))).mono ?_
              rintro f w2 ⟨rfl, hb2⟩
              have HB2 := Lib.hid (HBI.out.trans ((HBV9.out.trans (hb2.mono HBV9.out.size)).mono HBI.out.size))
              clear hb2
              cases r with
              | false =>
                have HE : Hid (boundBl tb loc ss = false) := Lib.hid (HNO.out (by
                  rw [HRS.out, all_no (d := nilE) (j := i) HIL.out (by rw [← HEy.out]; exact HR2.out.symm)]
                  rfl))
                have HBF := Lib.hid (HCW.out.trans (HB2.out.mono HCW.out.size))
                go_wp2_with fail
                go_ret
                rw [HE.out]
                exact ⟨rfl, HBF.out⟩
              | true =>
                have HN : Hid (∀ i', i' < i + 1 → boundE tb loc said (xes[i']?.getD nilE) = true) := Lib.hid (fun i' hi' => by
                  by_cases e : i' = i
                  · subst e; rw [← HEy.out]; exact HR2.out.symm
                  · exact HSI.out i' (by omega))
                go_wp2_with fail
                go_roundw
                case rel => exact ⟨i + 1, by omega, by go_num, HN, HB2⟩
                case measure => simp [intOf]; omega
            · obtain rfl : i = xn := by omega
              have HALL : Hid (boundS tb loc (.mk xk xm xs xA i xc' xes xA1 xn1 xc1 xbo xA2 xn2 xc2 xel) = (b1 && b2)) := Lib.hid (by
                rw [HRS.out, all_yes (d := nilE) (by rw [HXL.out]; exact HSI.out)]
                rfl)
              have kk4 : wr.cell? ⟨gs, 4, none⟩ = some (.slice xA1 xn1 xc1) := held_cells HK.out HVI.out 4
              have u0 : wr.cell? ⟨gt, 0, none⟩ = some (.int .i64 t1) := (HKT.out.below HIW.out HKT.out.lt).cell 0
              have u1 : wr.cell? ⟨gt, 1, none⟩ = some (.int .i64 t2) := (HKT.out.below HIW.out HKT.out.lt).cell 1
              have u2 : wr.cell? ⟨gt, 2, none⟩ = some (.int .i64 t3) := (HKT.out.below HIW.out HKT.out.lt).cell 2
              have u3 : wr.cell? ⟨gt, 3, none⟩ = some (.int .i64 t4) := (HKT.out.below HIW.out HKT.out.lt).cell 3
              have u4 : wr.cell? ⟨gt, 4, none⟩ = some (.slice S1 m1 k1) := (HKT.out.below HIW.out HKT.out.lt).cell 4
              have u5 : wr.cell? ⟨gt, 5, none⟩ = some (.int .i64 fl) := (HKT.out.below HIW.out HKT.out.lt).cell 5
              have u6 : wr.cell? ⟨gt, 6, none⟩ = some (.slice S2 m2 k2) := (HKT.out.below HIW.out HKT.out.lt).cell 6
              have u7 : wr.cell? ⟨gt, 7, none⟩ = some (.slice S3 m3 k3) := (HKT.out.below HIW.out HKT.out.lt).cell 7
              have u8 : wr.cell? ⟨gt, 8, none⟩ = some (.slice S4 m4 k4) := (HKT.out.below HIW.out HKT.out.lt).cell 8
              have u9 : wr.cell? ⟨gt, 9, none⟩ = some (.slice S5 m5 k5) := (HKT.out.below HIW.out HKT.out.lt).cell 9
              have u10 : wr.cell? ⟨gt, 10, none⟩ = some (.slice S6 m6 k6) := (HKT.out.below HIW.out HKT.out.lt).cell 10
              have u11 : wr.cell? ⟨gt, 11, none⟩ = some (.slice S7 m7 k7) := (HKT.out.below HIW.out HKT.out.lt).cell 11
              have u12 : wr.cell? ⟨gt, 12, none⟩ = some (.slice S8 m8 k8) := (HKT.out.below HIW.out HKT.out.lt).cell 12
              have u13 : wr.cell? ⟨gt, 13, none⟩ = some (.slice S9 m9 k9) := (HKT.out.below HIW.out HKT.out.lt).cell 13
              have u14 : wr.cell? ⟨gt, 14, none⟩ = some (.slice S10 m10 k10) := (HKT.out.below HIW.out HKT.out.lt).cell 14
              go_wp2_with fail
              clear u0 u1 u2 u3 u4 u5 u6 u7 u8 u9 u10 u11 u12 u13 u14
              refine (HCB.out wr (HWC.out.trans (HBI.out.mono HWC.out.size))).mono ?_
              rintro f w4 ⟨rfl, hb4⟩
              have HB4 := Lib.hid (HBI.out.trans (hb4.mono HBI.out.size))
              have HV4 := Lib.hid (HVC.out.trans (HB4.out.mono HVC.out.size))
              have HW4 := Lib.hid (HCW.out.trans (HB4.out.mono HCW.out.size))
              have HT4 := Lib.hid (HCW2.out.trans (HB4.out.mono HCW2.out.size))
              clear hb4
              cases b1 with
              | false =>
                have HE : Hid (boundBl tb loc ss = false) := Lib.hid (HNO.out (by rw [HALL.out]; rfl))
                go_wp2_with fail
                go_ret
                rw [HE.out]
                exact ⟨rfl, HW4.out⟩
              | true =>
                have l5 : w4.cell? ⟨gs, 5, none⟩ = some (.slice xA2 xn2 xc2) := held_cells HK.out HV4.out 5
                have u0 : w4.cell? ⟨gt, 0, none⟩ = some (.int .i64 t1) := (HKT.out.below HT4.out HKT.out.lt).cell 0
                have u1 : w4.cell? ⟨gt, 1, none⟩ = some (.int .i64 t2) := (HKT.out.below HT4.out HKT.out.lt).cell 1
                have u2 : w4.cell? ⟨gt, 2, none⟩ = some (.int .i64 t3) := (HKT.out.below HT4.out HKT.out.lt).cell 2
                have u3 : w4.cell? ⟨gt, 3, none⟩ = some (.int .i64 t4) := (HKT.out.below HT4.out HKT.out.lt).cell 3
                have u4 : w4.cell? ⟨gt, 4, none⟩ = some (.slice S1 m1 k1) := (HKT.out.below HT4.out HKT.out.lt).cell 4
                have u5 : w4.cell? ⟨gt, 5, none⟩ = some (.int .i64 fl) := (HKT.out.below HT4.out HKT.out.lt).cell 5
                have u6 : w4.cell? ⟨gt, 6, none⟩ = some (.slice S2 m2 k2) := (HKT.out.below HT4.out HKT.out.lt).cell 6
                have u7 : w4.cell? ⟨gt, 7, none⟩ = some (.slice S3 m3 k3) := (HKT.out.below HT4.out HKT.out.lt).cell 7
                have u8 : w4.cell? ⟨gt, 8, none⟩ = some (.slice S4 m4 k4) := (HKT.out.below HT4.out HKT.out.lt).cell 8
                have u9 : w4.cell? ⟨gt, 9, none⟩ = some (.slice S5 m5 k5) := (HKT.out.below HT4.out HKT.out.lt).cell 9
                have u10 : w4.cell? ⟨gt, 10, none⟩ = some (.slice S6 m6 k6) := (HKT.out.below HT4.out HKT.out.lt).cell 10
                have u11 : w4.cell? ⟨gt, 11, none⟩ = some (.slice S7 m7 k7) := (HKT.out.below HT4.out HKT.out.lt).cell 11
                have u12 : w4.cell? ⟨gt, 12, none⟩ = some (.slice S8 m8 k8) := (HKT.out.below HT4.out HKT.out.lt).cell 12
                have u13 : w4.cell? ⟨gt, 13, none⟩ = some (.slice S9 m9 k9) := (HKT.out.below HT4.out HKT.out.lt).cell 13
                have u14 : w4.cell? ⟨gt, 14, none⟩ = some (.slice S10 m10 k10) := (HKT.out.below HT4.out HKT.out.lt).cell 14
                go_wp2_with fail
                clear u0 u1 u2 u3 u4 u5 u6 u7 u8 u9 u10 u11 u12 u13 u14
                refine (HCE.out w4 (HWC.out.trans (HB4.out.mono HWC.out.size))).mono ?_
                rintro f w5 ⟨rfl, hb5⟩
                have HW5 := Lib.hid (HW4.out.trans (hb5.mono HW4.out.size))
                have HT5 := Lib.hid (HT4.out.trans (hb5.mono HT4.out.size))
                clear hb5
                cases b2 with
                | false =>
                  have HE : Hid (boundBl tb loc ss = false) := Lib.hid (HNO.out (by rw [HALL.out]; rfl))
                  go_wp2_with fail
                  go_ret
                  rw [HE.out]
                  exact ⟨rfl, HW5.out⟩
                | true =>
                  have HN : Hid (∀ i', i' < j + 1 → boundS tb loc (ss[i']?.getD nilS) = true) := Lib.hid (fun i' hi' => by
                    by_cases e : i' = j
                    · subst e; rw [← HEx.out, HALL.out]; rfl
                    · exact HSO.out i' (by omega))
                  go_wp2_with fail
                  go_roundw
                  case rel => exact ⟨j + 1, by omega, by go_num, HN, HT5⟩
                  case measure => simp [intOf]; omega
    · obtain rfl : j = n := by omega
      have HE : Hid (boundSs tb loc ss = true) := Lib.hid (by rw [boundSs_all]; exact all_yes (d := nilS) (by rw [HL.out]; exact HSO.out))
      have HF : Hid (boundBl tb loc ss = decide ((j : Int) ≤ 256)) := Lib.hid (by unfold boundBl; rw [HE.out, Bool.true_and, HL.out]; exact decide_eq_decide.2 (by omega))
      go_wp2_with fail
      go_ret
      rw [HF.out]
      exact ⟨rfl, HBR.out⟩

theorem boundL_all (T : TV) (loc : Int) (hl : -9223372036854775808 ≤ loc ∧ loc ≤ 9223372036854775807) : ∀ x : SL, BoundL T loc x.body ∧ BoundL T loc x.els := SL.ind fun s h1 h2 => ⟨r10boundBlock_of T loc hl s.body h1, r10boundBlock_of T loc hl s.els h2⟩
theorem r10boundBlock_any (T : TV) (loc : Int) (hl : -9223372036854775808 ≤ loc ∧ loc ≤ 9223372036854775807) (ss : List SL) : BoundL T loc ss := r10boundBlock_of T loc hl ss fun x _ => boundL_all T loc hl x

set_option maxRecDepth 100000 in
set_option maxHeartbeats 6400000 in
theorem r10BoundBlock_any (T : TV) (loc : Int) (hl : -9223372036854775808 ≤ loc ∧ loc ≤ 9223372036854775807) (ss : List SL) (A : Option Addr) (n c : Nat) (w : World) (hT : T.In w w.heap.size) (hrow : RowS6 w w.heap.size A n ss) (hins : SL.Ins w w.heap.size ss) :
    Calls Try.prog 19 #[T.val, .slice A n c, .int .i64 loc] w fun f w' => f = .returned (.bool (boundBs T.tb loc ss)) ∧ Below w.heap.size w w' := by
  have hc : ∀ W : World, Below w.heap.size w W → Calls Try.prog 31 #[.slice A n c] W fun f w' => f = .returned (.int .i64 ((min 65 (depSs ss) : Nat) : Int)) ∧ Below W.heap.size W w' := fun W hb => r10DepthBlock_any ss A n c W ((hrow.below hb).more hb.size) ((hins.below hb).more hb.size)
  have hr : ∀ W : World, Below w.heap.size w W → Calls Try.prog 39 #[T.val, .slice A n c, .int .i64 loc] W fun f w' => f = .returned (.bool (boundBl T.tb loc ss)) ∧ Below W.heap.size W w' := fun W hb => r10boundBlock_any T loc hl ss A n c W ((hT.below hb).more hb.size) ((hrow.below hb).more hb.size) ((hins.below hb).more hb.size)
  unfold boundBs
  obtain ⟨d, hd⟩ : ∃ d, d = min 65 (depSs ss) := ⟨_, rfl⟩
  have he : decide (depSs ss ≤ 32) = decide (d ≤ 32) := decide_eq_decide.2 (by omega)
  rw [he]
  obtain ⟨q, hq⟩ : ∃ q, q = boundBl T.tb loc ss := ⟨_, rfl⟩
  rw [← hq]
  rw [← hd] at hc
  rw [← hq] at hr
  clear he hd hq hrow hins hT hl
  obtain ⟨t1, t2, t3, t4, S1, m1, k1, fl, S2, m2, k2, S3, m3, k3, S4, m4, k4, S5, m5, k5, S6, m6, k6, S7, m7, k7, S8, m8, k8, S9, m9, k9, S10, m10, k10, fs, ps⟩ := T
  have hr' : ∀ W : World, Below w.heap.size w W → Calls Try.prog 39 #[.agg #[.int .i64 t1, .int .i64 t2, .int .i64 t3, .int .i64 t4, .slice S1 m1 k1, .int .i64 fl, .slice S2 m2 k2, .slice S3 m3 k3, .slice S4 m4 k4, .slice S5 m5 k5, .slice S6 m6 k6, .slice S7 m7 k7, .slice S8 m8 k8, .slice S9 m9 k9, .slice S10 m10 k10], .slice A n c, .int .i64 loc] W fun f w' => f = .returned (.bool q) ∧ Below W.heap.size W w' := hr
  have HC := Lib.hid hc
  have HR := Lib.hid hr'
  obtain ⟨W, hW⟩ : ∃ W, W = w.alloc (.cells #[.int .i64 t1, .int .i64 t2, .int .i64 t3, .int .i64 t4, .slice S1 m1 k1, .int .i64 fl, .slice S2 m2 k2, .slice S3 m3 k3, .slice S4 m4 k4, .slice S5 m5 k5, .slice S6 m6 k6, .slice S7 m7 k7, .slice S8 m8 k8, .slice S9 m9 k9, .slice S10 m10 k10] 37) := ⟨_, rfl⟩
  have HBW : Hid (Below w.heap.size w W) := Lib.hid (by rw [hW]; exact (Below.refl _ _).alloc (Nat.le_refl _) _)
  have HKT : Hid (Blk W w.heap.size 37 #[.int .i64 t1, .int .i64 t2, .int .i64 t3, .int .i64 t4, .slice S1 m1 k1, .int .i64 fl, .slice S2 m2 k2, .slice S3 m3 k3, .slice S4 m4 k4, .slice S5 m5 k5, .slice S6 m6 k6, .slice S7 m7 k7, .slice S8 m8 k8, .slice S9 m9 k9, .slice S10 m10 k10]) := Lib.hid (by rw [hW]; exact Blk.new _ _ _)
  show Calls Try.prog _ #[.agg #[.int .i64 t1, .int .i64 t2, .int .i64 t3, .int .i64 t4, .slice S1 m1 k1, .int .i64 fl, .slice S2 m2 k2, .slice S3 m3 k3, .slice S4 m4 k4, .slice S5 m5 k5, .slice S6 m6 k6, .slice S7 m7 k7, .slice S8 m8 k8, .slice S9 m9 k9, .slice S10 m10 k10], .slice A n c, .int .i64 loc] w _
  clear hc hr hr'
  go_enter Try.func19, Try.ntmps19
  go_wp2_with fail
  rw [← hW]
  clear hW
  refine (HC.out W HBW.out).mono ?_
  rintro f w2 ⟨rfl, hb2⟩
  have HB2 := Lib.hid hb2
  clear hb2
  have HBF := Lib.hid (HBW.out.trans (HB2.out.mono HBW.out.size))
  by_cases h32 : d ≤ 32
  · have t1e : (d : Int) ≤ 32 := by omega
    have E1 : Hid ((decide (d ≤ 32) && q) = q) := Lib.hid (by rw [decide_eq_true h32, Bool.true_and])
    clear h32
    have uu0 : w2.cell? ⟨w.heap.size, 0, none⟩ = some (.int .i64 t1) := (HKT.out.below HB2.out HKT.out.lt).cell 0
    have uu1 : w2.cell? ⟨w.heap.size, 1, none⟩ = some (.int .i64 t2) := (HKT.out.below HB2.out HKT.out.lt).cell 1
    have uu2 : w2.cell? ⟨w.heap.size, 2, none⟩ = some (.int .i64 t3) := (HKT.out.below HB2.out HKT.out.lt).cell 2
    have uu3 : w2.cell? ⟨w.heap.size, 3, none⟩ = some (.int .i64 t4) := (HKT.out.below HB2.out HKT.out.lt).cell 3
    have uu4 : w2.cell? ⟨w.heap.size, 4, none⟩ = some (.slice S1 m1 k1) := (HKT.out.below HB2.out HKT.out.lt).cell 4
    have uu5 : w2.cell? ⟨w.heap.size, 5, none⟩ = some (.int .i64 fl) := (HKT.out.below HB2.out HKT.out.lt).cell 5
    have uu6 : w2.cell? ⟨w.heap.size, 6, none⟩ = some (.slice S2 m2 k2) := (HKT.out.below HB2.out HKT.out.lt).cell 6
    have uu7 : w2.cell? ⟨w.heap.size, 7, none⟩ = some (.slice S3 m3 k3) := (HKT.out.below HB2.out HKT.out.lt).cell 7
    have uu8 : w2.cell? ⟨w.heap.size, 8, none⟩ = some (.slice S4 m4 k4) := (HKT.out.below HB2.out HKT.out.lt).cell 8
    have uu9 : w2.cell? ⟨w.heap.size, 9, none⟩ = some (.slice S5 m5 k5) := (HKT.out.below HB2.out HKT.out.lt).cell 9
    have uu10 : w2.cell? ⟨w.heap.size, 10, none⟩ = some (.slice S6 m6 k6) := (HKT.out.below HB2.out HKT.out.lt).cell 10
    have uu11 : w2.cell? ⟨w.heap.size, 11, none⟩ = some (.slice S7 m7 k7) := (HKT.out.below HB2.out HKT.out.lt).cell 11
    have uu12 : w2.cell? ⟨w.heap.size, 12, none⟩ = some (.slice S8 m8 k8) := (HKT.out.below HB2.out HKT.out.lt).cell 12
    have uu13 : w2.cell? ⟨w.heap.size, 13, none⟩ = some (.slice S9 m9 k9) := (HKT.out.below HB2.out HKT.out.lt).cell 13
    have uu14 : w2.cell? ⟨w.heap.size, 14, none⟩ = some (.slice S10 m10 k10) := (HKT.out.below HB2.out HKT.out.lt).cell 14
    go_wp2_with fail
    refine (HR.out w2 HBF.out).mono ?_
    rintro f w3 ⟨rfl, hb3⟩
    go_wp2_with fail
    go_ret
    rw [E1.out]
    exact ⟨rfl, HBF.out.trans (hb3.mono HBF.out.size)⟩
  · have t1e : ¬ (d : Int) ≤ 32 := by omega
    have E1 : Hid ((decide (d ≤ 32) && q) = false) := Lib.hid (by rw [decide_eq_false h32, Bool.false_and])
    clear h32
    go_wp2_with fail
    go_ret
    rw [E1.out]
    exact ⟨rfl, HBF.out⟩

end Go.Proofs.Ytdmpadonnobeaaa
