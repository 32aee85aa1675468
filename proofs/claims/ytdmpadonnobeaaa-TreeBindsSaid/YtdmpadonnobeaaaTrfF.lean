/- Contracts of the program's validExpr, validStmt, validBlock, at any language. -/
import Derived.Test.YtdmpadonnobeaaaTrfD
import Derived.Test.YtdmpadonnobeaaaTrfA
namespace Go.Proofs.Ytdmpadonnobeaaa
open Go.RowKit
set_option linter.unusedVariables false

/-- what a language's three functions do, in each world that is as w0 was -/
structure LGok (w0 : World) (G : LG) (X : EL → Bool) (Y : SL → Bool) (lb : SL → Int × List UInt8) : Prop where
  eN : Enters G.kN
  eE : Enters G.kE
  eS : Enters G.kS
  hN : ∀ (s : SL) (W : World), Below w0.heap.size w0 W → s.In W W.heap.size → Calls Try.prog G.kN #[sVal s] W fun f w' => f = .returned (lbV (lb s).1 (lb s).2) ∧ Below W.heap.size W w'
  hE : ∀ (e : EL) (W : World), Below w0.heap.size w0 W → e.In W W.heap.size → Calls Try.prog G.kE (G.F ++ #[eVal e]) W fun f w' => f = .returned (.bool (X e)) ∧ Below W.heap.size W w'
  hS : ∀ (s : SL) (W : World), Below w0.heap.size w0 W → s.In W W.heap.size → Calls Try.prog G.kS (G.F ++ #[sVal s]) W fun f w' => f = .returned (.bool (Y s)) ∧ Below W.heap.size W w'

set_option maxRecDepth 100000 in
set_option maxHeartbeats 6400000 in
theorem tvalidExpr_any (w0 : World) (G : LG) (X : EL → Bool) (Y : SL → Bool) (lb : SL → Int × List UInt8) (hok : LGok w0 G X Y lb) : ∀ (d : Nat), (d : Int) ≤ 100000 → VEAt w0 G X d := by
  intro d
  induction d with
  | zero =>
    intro _ e w hw hin
    rw [show vE X G.tx 0 e = false from rfl]
    clear hok hw hin
    obtain ⟨tx, cl, kN, kE, kS, F⟩ := G
    obtain ⟨xk, xo, xm, xs, xA, xn, xc', xes⟩ := e
    show Calls Try.prog _ #[.agg #[.int .i64 tx, .int .i64 cl, .func (.func kN) #[] #[], .func (.func kE) F #[], .func (.func kS) F #[]], .agg #[.int .i64 xk, .int .i64 xo, .int .i64 xm, .string (bs xs), .slice xA xn xc'], .int .i64 0] w fun f w' => f = .returned (.bool false) ∧ Below w.heap.size w w'
    obtain ⟨W, hW⟩ : ∃ W, W = ((w.alloc (.cells #[.int .i64 tx, .int .i64 cl, .func (.func kN) #[] #[], .func (.func kE) F #[], .func (.func kS) F #[]] 51)).alloc (.cells #[.int .i64 xk, .int .i64 xo, .int .i64 xm, .string (bs xs), .slice xA xn xc'] 24)) := ⟨_, rfl⟩
    have HBW : Hid (Below w.heap.size w W) := Lib.hid (by rw [hW]; exact ((Below.refl _ _).alloc (Nat.le_refl _) _).alloc (by simp) _)
    have HG : Hid (Blk W w.heap.size 51 #[.int .i64 tx, .int .i64 cl, .func (.func kN) #[] #[], .func (.func kE) F #[], .func (.func kS) F #[]]) := Lib.hid (by rw [hW]; exact (Blk.new w _ _).alloc _)
    have HE : Hid (Blk W (w.heap.size + 1) 24 #[.int .i64 xk, .int .i64 xo, .int .i64 xm, .string (bs xs), .slice xA xn xc']) := Lib.hid (by rw [hW]; exact Blk.new_at _ _ _ _ (by simp))
    go_enter Try.func33, Try.ntmps33
    go_wp2_with fail
    rw [← hW]

    refine (targsCheck_any ⟨tx, cl, kN, kE, kS, F⟩ (-1) false W).mono ?_
    rintro f w1 ⟨bc, bg, bs', bd, rfl, hck, hb1⟩
    have HB1 : Hid (Below w.heap.size w w1) := Lib.hid (HBW.out.trans (hb1.mono HBW.out.size))
    have hcg : Hid (∀ u : World, Below w1.heap.size w1 u → u.cell? ⟨w.heap.size, 0, none⟩ = some (.int .i64 tx) ∧ u.cell? ⟨w.heap.size, 1, none⟩ = some (.int .i64 cl) ∧ u.cell? ⟨w.heap.size, 2, none⟩ = some (.func (.func kN) #[] #[]) ∧ u.cell? ⟨w.heap.size, 3, none⟩ = some (.func (.func kE) F #[]) ∧ u.cell? ⟨w.heap.size, 4, none⟩ = some (.func (.func kS) F #[])) := Lib.hid (fun u hb => by
      have hk : Blk w1 (w.heap.size) 51 #[.int .i64 tx, .int .i64 cl, .func (.func kN) #[] #[], .func (.func kE) F #[], .func (.func kS) F #[]] := (HG.out).below hb1 HG.out.lt
      have hk2 := hk.below hb hk.lt
      exact ⟨hk2.cell 0, hk2.cell 1, hk2.cell 2, hk2.cell 3, hk2.cell 4⟩)
    have hce : Hid (∀ u : World, Below w1.heap.size w1 u → u.cell? ⟨w.heap.size + 1, 0, none⟩ = some (.int .i64 xk) ∧ u.cell? ⟨w.heap.size + 1, 1, none⟩ = some (.int .i64 xo) ∧ u.cell? ⟨w.heap.size + 1, 2, none⟩ = some (.int .i64 xm) ∧ u.cell? ⟨w.heap.size + 1, 3, none⟩ = some (.string (bs xs)) ∧ u.cell? ⟨w.heap.size + 1, 4, none⟩ = some (.slice xA xn xc')) := Lib.hid (fun u hb => by
      have hk : Blk w1 (w.heap.size + 1) 24 #[.int .i64 xk, .int .i64 xo, .int .i64 xm, .string (bs xs), .slice xA xn xc'] := (HE.out).below hb1 HE.out.lt
      have hk2 := hk.below hb hk.lt
      exact ⟨hk2.cell 0, hk2.cell 1, hk2.cell 2, hk2.cell 3, hk2.cell 4⟩)
    have HCK := Lib.hid hck
    clear hb1 hck hW
    go_wp2_with fail
    refine wp_region_held_drew (S := Below w1.heap.size w1) (by kernel_rfl) (Below.refl _ _).drew (fun hHeld => ?_)
    refine held_take (i := 0) (fuel := 21) (v := ?_) (by rw [List.getElem?_toArray]; rfl) (by kernel_rfl) (by kernel_rfl) (by kernel_rfl) hHeld ?_ ?_ ?_ ?_
    rotate_left
    · intro u hSw
      go_simp
      try with_reducible rfl
    · rfl
    · exact fun _ _ _ h => h
    try simp only [Act.put, List.setIfInBounds_toArray, List.set_cons_zero, List.set_cons_succ]
    refine held_take (i := 1) (fuel := 20) (v := ?_) (by rw [List.getElem?_toArray]; rfl) (by kernel_rfl) (by kernel_rfl) (by kernel_rfl) hHeld ?_ ?_ ?_ ?_
    rotate_left
    · intro u hSw
      go_simp
      try with_reducible rfl
    · rfl
    · exact fun _ _ _ h => h
    try simp only [Act.put, List.setIfInBounds_toArray, List.set_cons_zero, List.set_cons_succ]
    refine held_take (i := 2) (fuel := 19) (v := ?_) (by rw [List.getElem?_toArray]; rfl) (by kernel_rfl) (by kernel_rfl) (by kernel_rfl) hHeld ?_ ?_ ?_ ?_
    rotate_left
    · intro u hSw
      go_simp
      try with_reducible rfl
    · rfl
    · exact fun _ _ _ h => h
    try simp only [Act.put, List.setIfInBounds_toArray, List.set_cons_zero, List.set_cons_succ]
    refine held_skip (i := 3) (fuel := 18) (by rw [List.getElem?_toArray]; rfl) (by kernel_rfl) (by kernel_rfl) (by kernel_rfl) hHeld ?_ ?_ ?_
    · rfl
    · exact fun _ _ _ h => h
    try simp only [Act.put, List.setIfInBounds_toArray, List.set_cons_zero, List.set_cons_succ]
    refine held_skip (i := 4) (fuel := 17) (by rw [List.getElem?_toArray]; rfl) (by kernel_rfl) (by kernel_rfl) (by kernel_rfl) hHeld ?_ ?_ ?_
    · rfl
    · exact fun _ _ _ h => h
    try simp only [Act.put, List.setIfInBounds_toArray, List.set_cons_zero, List.set_cons_succ]
    refine held_skip (i := 5) (fuel := 16) (by rw [List.getElem?_toArray]; rfl) (by kernel_rfl) (by kernel_rfl) (by kernel_rfl) hHeld ?_ ?_ ?_
    · rfl
    · exact fun _ _ _ h => h
    try simp only [Act.put, List.setIfInBounds_toArray, List.set_cons_zero, List.set_cons_succ]
    refine held_skip (i := 6) (fuel := 15) (by rw [List.getElem?_toArray]; rfl) (by kernel_rfl) (by kernel_rfl) (by kernel_rfl) hHeld ?_ ?_ ?_
    · rfl
    · exact fun _ _ _ h => h
    try simp only [Act.put, List.setIfInBounds_toArray, List.set_cons_zero, List.set_cons_succ]
    refine held_skip (i := 7) (fuel := 14) (by rw [List.getElem?_toArray]; rfl) (by kernel_rfl) (by kernel_rfl) (by kernel_rfl) hHeld ?_ ?_ ?_
    · rfl
    · exact fun _ _ _ h => h
    try simp only [Act.put, List.setIfInBounds_toArray, List.set_cons_zero, List.set_cons_succ]
    refine held_take (i := 8) (fuel := 13) (v := ?_) (by rw [List.getElem?_toArray]; rfl) (by kernel_rfl) (by kernel_rfl) (by kernel_rfl) hHeld ?_ ?_ ?_ ?_
    rotate_left
    · intro u hSw
      go_simp
      try with_reducible rfl
    · rfl
    · exact fun _ _ _ h => h
    try simp only [Act.put, List.setIfInBounds_toArray, List.set_cons_zero, List.set_cons_succ]
    refine held_take (i := 9) (fuel := 12) (v := ?_) (by rw [List.getElem?_toArray]; rfl) (by kernel_rfl) (by kernel_rfl) (by kernel_rfl) hHeld ?_ ?_ ?_ ?_
    rotate_left
    · intro u hSw
      go_simp
      try with_reducible rfl
    · rfl
    · exact fun _ _ _ h => h
    try simp only [Act.put, List.setIfInBounds_toArray, List.set_cons_zero, List.set_cons_succ]
    refine held_skip (i := 10) (fuel := 11) (by rw [List.getElem?_toArray]; rfl) (by kernel_rfl) (by kernel_rfl) (by kernel_rfl) hHeld ?_ ?_ ?_
    · rfl
    · exact fun _ _ _ h => h
    try simp only [Act.put, List.setIfInBounds_toArray, List.set_cons_zero, List.set_cons_succ]
    refine held_skip (i := 11) (fuel := 10) (by rw [List.getElem?_toArray]; rfl) (by kernel_rfl) (by kernel_rfl) (by kernel_rfl) hHeld ?_ ?_ ?_
    · rfl
    · exact fun _ _ _ h => h
    try simp only [Act.put, List.setIfInBounds_toArray, List.set_cons_zero, List.set_cons_succ]
    refine held_skip (i := 12) (fuel := 9) (by rw [List.getElem?_toArray]; rfl) (by kernel_rfl) (by kernel_rfl) (by kernel_rfl) hHeld ?_ ?_ ?_
    · rfl
    · exact fun _ _ _ h => h
    try simp only [Act.put, List.setIfInBounds_toArray, List.set_cons_zero, List.set_cons_succ]
    refine held_skip (i := 13) (fuel := 8) (by rw [List.getElem?_toArray]; rfl) (by kernel_rfl) (by kernel_rfl) (by kernel_rfl) hHeld ?_ ?_ ?_
    · rfl
    · exact fun _ _ _ h => h
    try simp only [Act.put, List.setIfInBounds_toArray, List.set_cons_zero, List.set_cons_succ]
    refine held_take (i := 14) (fuel := 7) (v := ?_) (by rw [List.getElem?_toArray]; rfl) (by kernel_rfl) (by kernel_rfl) (by kernel_rfl) hHeld ?_ ?_ ?_ ?_
    rotate_left
    · intro u hSw
      go_simp
      try with_reducible rfl
    · rfl
    · exact fun _ _ _ h => h
    try simp only [Act.put, List.setIfInBounds_toArray, List.set_cons_zero, List.set_cons_succ]
    refine held_take (i := 15) (fuel := 6) (v := ?_) (by rw [List.getElem?_toArray]; rfl) (by kernel_rfl) (by kernel_rfl) (by kernel_rfl) hHeld ?_ ?_ ?_ ?_
    rotate_left
    · intro u hSw
      go_simp
      try with_reducible rfl
    · rfl
    · exact fun _ _ _ h => h
    try simp only [Act.put, List.setIfInBounds_toArray, List.set_cons_zero, List.set_cons_succ]
    refine held_skip (i := 16) (fuel := 5) (by rw [List.getElem?_toArray]; rfl) (by kernel_rfl) (by kernel_rfl) (by kernel_rfl) hHeld ?_ ?_ ?_
    · rfl
    · exact fun _ _ _ h => h
    try simp only [Act.put, List.setIfInBounds_toArray, List.set_cons_zero, List.set_cons_succ]
    refine held_skip (i := 17) (fuel := 4) (by rw [List.getElem?_toArray]; rfl) (by kernel_rfl) (by kernel_rfl) (by kernel_rfl) hHeld ?_ ?_ ?_
    · rfl
    · exact fun _ _ _ h => h
    try simp only [Act.put, List.setIfInBounds_toArray, List.set_cons_zero, List.set_cons_succ]
    refine held_skip (i := 18) (fuel := 3) (by rw [List.getElem?_toArray]; rfl) (by kernel_rfl) (by kernel_rfl) (by kernel_rfl) hHeld ?_ ?_ ?_
    · rfl
    · exact fun _ _ _ h => h
    try simp only [Act.put, List.setIfInBounds_toArray, List.set_cons_zero, List.set_cons_succ]
    refine held_skip (i := 19) (fuel := 2) (by rw [List.getElem?_toArray]; rfl) (by kernel_rfl) (by kernel_rfl) (by kernel_rfl) hHeld ?_ ?_ ?_
    · rfl
    · exact fun _ _ _ h => h
    try simp only [Act.put, List.setIfInBounds_toArray, List.set_cons_zero, List.set_cons_succ]
    refine held_take (i := 20) (fuel := 1) (v := ?_) (by rw [List.getElem?_toArray]; rfl) (by kernel_rfl) (by kernel_rfl) (by kernel_rfl) hHeld ?_ ?_ ?_ ?_
    rotate_left
    · intro u hSw
      go_simp
      try with_reducible rfl
    · rfl
    · exact fun _ _ _ h => h
    try simp only [Act.put, List.setIfInBounds_toArray, List.set_cons_zero, List.set_cons_succ]
    refine held_take (i := 21) (fuel := 0) (v := ?_) (by rw [List.getElem?_toArray]; rfl) (by kernel_rfl) (by kernel_rfl) (by kernel_rfl) hHeld ?_ ?_ ?_ ?_
    rotate_left
    · intro u hSw
      go_simp
      try with_reducible rfl
    · rfl
    · exact fun _ _ _ h => h
    try simp only [Act.put, List.setIfInBounds_toArray, List.set_cons_zero, List.set_cons_succ]
    refine wpAnyH_done (by kernel_rfl) ?_ _
    have HF := Lib.hid (HB1.out.trans (hHeld.mono HB1.out.size))
    go_wp2_with fail
    go_ret
    exact ⟨rfl, HF.out⟩
  | succ d ih =>
    intro hd e w hw hin
    have hV := ih (by omega)
    rw [vE_succ]
    have hrow := hin.row
    have hargs := hin.args
    obtain ⟨ev, hev⟩ : ∃ v, v = eVal e := ⟨_, rfl⟩
    obtain ⟨v1, hv1⟩ : ∃ v, v = e.fv.val := ⟨_, rfl⟩
    obtain ⟨v2, hv2⟩ : ∃ v, v = e.form.val := ⟨_, rfl⟩
    obtain ⟨q1, hq1⟩ : ∃ q, q = decide (e.fv = e.form) := ⟨_, rfl⟩
    obtain ⟨q2, hq2⟩ : ∃ q, q = X e := ⟨_, rfl⟩
    obtain ⟨q3, hq3⟩ : ∃ q, q = e.args.all (inE X G.tx false d) := ⟨_, rfl⟩
    have heq : ∀ W : World, (binOp .eql 61 v1 v2).run Try.prog W = .ok (.bool q1) W := fun W => by rw [hv1, hv2, hq1]; exact run_eql_fv _ _ W
    have hgd : ∀ (a b : Operand) (W : World), (eqGuard .eql 61 a b v1 v2).run Try.prog W = .ok () W := fun a b W => by rw [hv1, hv2]; exact guard_fv _ _ _ _ _ W
    have hf1 : ∀ W : World, Calls Try.prog 40 #[ev] W fun f w' => f = .returned v1 ∧ Below W.heap.size W w' := fun W => by rw [hv1, hev]; exact texprFields_any e W
    have hf2 : ∀ W : World, Calls Try.prog 53 #[ev] W fun f w' => f = .returned v2 ∧ Below W.heap.size W w' := fun W => by rw [hv2, hev]; exact texprForm_any e W
    have hXC : ∀ W : World, Below w.heap.size w W → Calls Try.prog G.kE (G.F ++ #[ev]) W fun f w' => f = .returned (.bool q2) ∧ Below W.heap.size W w' := fun W hb => by rw [hev, hq2]; exact hok.hE e W (hw.trans (hb.mono hw.size)) (EL.In.more hb.size (hin.below hb))
    have hAC : ∀ (W : World) (bc bg bs' bd : Nat), Below w.heap.size w W → Ck W G (d : Int) false bc bg bs' bd → Calls Try.prog 76 #[.slice e.A e.n e.c, .pointer (some ⟨bc, 0, none⟩)] W fun f w' => f = .returned (.bool q3) ∧ Below W.heap.size W w' := fun W bc bg bs' bd hb hck => by
      rw [hq3]
      exact targs2_any w0 G X d hV false bc bg bs' bd e.args e.A e.n e.c W hck (hw.trans (hb.mono hw.size)) ((RowE.below hrow hb).more hb.size) ((EL.Ins.below hargs hb).more hb.size)
    have hkE := hok.eE.run
    rw [← hq1, ← hq2, ← hq3, ← hev]
    clear hok ih hV hw hin hrow hargs hq1 hq2 hq3 hv1 hv2
    obtain ⟨tx, cl, kN, kE, kS, F⟩ := G
    simp only at hXC hkE
    obtain ⟨xk, xo, xm, xs, xA, xn, xc', xes⟩ := e
    have hev2 : ev = .agg #[.int .i64 xk, .int .i64 xo, .int .i64 xm, .string (bs xs), .slice xA xn xc'] := hev
    clear hev
    subst hev2
    have HXC := Lib.hid hXC
    have HAC := Lib.hid hAC
    have HF1 := Lib.hid hf1
    have HF2 := Lib.hid hf2
    clear hXC hAC hf1 hf2
    obtain ⟨D, hD⟩ : ∃ D : Nat, D = d + 1 := ⟨_, rfl⟩
    rw [← hD]
    have hD0 : 0 < (D : Int) := by omega
    have wq : IntKind.i64.wrap ((D : Int) - 1) = (d : Int) := by rw [IntKind.wrap_i64]; omega
    have wq2 : wrap64 ((D : Int) - 1) = (d : Int) := by rw [IntWalk.wrap64_in _ (by omega)]; omega
    have hd2 : decide (0 < D) = true := by rw [decide_eq_true_eq]; omega
    clear hD hd
    show Calls Try.prog _ #[.agg #[.int .i64 tx, .int .i64 cl, .func (.func kN) #[] #[], .func (.func kE) F #[], .func (.func kS) F #[]], .agg #[.int .i64 xk, .int .i64 xo, .int .i64 xm, .string (bs xs), .slice xA xn xc'], .int .i64 (D : Int)] w fun f w' => f = .returned (.bool (q1 && q2 && q3)) ∧ Below w.heap.size w w'
    obtain ⟨W, hW⟩ : ∃ W, W = ((w.alloc (.cells #[.int .i64 tx, .int .i64 cl, .func (.func kN) #[] #[], .func (.func kE) F #[], .func (.func kS) F #[]] 51)).alloc (.cells #[.int .i64 xk, .int .i64 xo, .int .i64 xm, .string (bs xs), .slice xA xn xc'] 24)) := ⟨_, rfl⟩
    have HBW : Hid (Below w.heap.size w W) := Lib.hid (by rw [hW]; exact ((Below.refl _ _).alloc (Nat.le_refl _) _).alloc (by simp) _)
    have HG : Hid (Blk W w.heap.size 51 #[.int .i64 tx, .int .i64 cl, .func (.func kN) #[] #[], .func (.func kE) F #[], .func (.func kS) F #[]]) := Lib.hid (by rw [hW]; exact (Blk.new w _ _).alloc _)
    have HE : Hid (Blk W (w.heap.size + 1) 24 #[.int .i64 xk, .int .i64 xo, .int .i64 xm, .string (bs xs), .slice xA xn xc']) := Lib.hid (by rw [hW]; exact Blk.new_at _ _ _ _ (by simp))
    cases q1 with
    | false =>
      rw [Bool.false_and, Bool.false_and]
      go_enter Try.func33, Try.ntmps33
      go_wp2_with fail
      rw [← hW]
      clear wq wq2
      refine (targsCheck_any ⟨tx, cl, kN, kE, kS, F⟩ (d : Int) false W).mono ?_
      rintro f w1 ⟨bc, bg, bs', bd, rfl, hck, hb1⟩
      have HB1 : Hid (Below w.heap.size w w1) := Lib.hid (HBW.out.trans (hb1.mono HBW.out.size))
      have hcg : Hid (∀ u : World, Below w1.heap.size w1 u → u.cell? ⟨w.heap.size, 0, none⟩ = some (.int .i64 tx) ∧ u.cell? ⟨w.heap.size, 1, none⟩ = some (.int .i64 cl) ∧ u.cell? ⟨w.heap.size, 2, none⟩ = some (.func (.func kN) #[] #[]) ∧ u.cell? ⟨w.heap.size, 3, none⟩ = some (.func (.func kE) F #[]) ∧ u.cell? ⟨w.heap.size, 4, none⟩ = some (.func (.func kS) F #[])) := Lib.hid (fun u hb => by
        have hk : Blk w1 (w.heap.size) 51 #[.int .i64 tx, .int .i64 cl, .func (.func kN) #[] #[], .func (.func kE) F #[], .func (.func kS) F #[]] := (HG.out).below hb1 HG.out.lt
        have hk2 := hk.below hb hk.lt
        exact ⟨hk2.cell 0, hk2.cell 1, hk2.cell 2, hk2.cell 3, hk2.cell 4⟩)
      have hce : Hid (∀ u : World, Below w1.heap.size w1 u → u.cell? ⟨w.heap.size + 1, 0, none⟩ = some (.int .i64 xk) ∧ u.cell? ⟨w.heap.size + 1, 1, none⟩ = some (.int .i64 xo) ∧ u.cell? ⟨w.heap.size + 1, 2, none⟩ = some (.int .i64 xm) ∧ u.cell? ⟨w.heap.size + 1, 3, none⟩ = some (.string (bs xs)) ∧ u.cell? ⟨w.heap.size + 1, 4, none⟩ = some (.slice xA xn xc')) := Lib.hid (fun u hb => by
        have hk : Blk w1 (w.heap.size + 1) 24 #[.int .i64 xk, .int .i64 xo, .int .i64 xm, .string (bs xs), .slice xA xn xc'] := (HE.out).below hb1 HE.out.lt
        have hk2 := hk.below hb hk.lt
        exact ⟨hk2.cell 0, hk2.cell 1, hk2.cell 2, hk2.cell 3, hk2.cell 4⟩)
      have HCK := Lib.hid hck
      clear hb1 hck hW
      go_wp2_with fail
      refine wp_region_held_drew (S := Below w1.heap.size w1) (by kernel_rfl) (Below.refl _ _).drew (fun hHeld => ?_)
      refine held_take (i := 0) (fuel := 21) (v := ?_) (by rw [List.getElem?_toArray]; rfl) (by kernel_rfl) (by kernel_rfl) (by kernel_rfl) hHeld ?_ ?_ ?_ ?_
      rotate_left
      · intro u hSw
        go_simp
        try with_reducible rfl
      · rfl
      · exact fun _ _ _ h => h
      try simp only [Act.put, List.setIfInBounds_toArray, List.set_cons_zero, List.set_cons_succ]
      refine held_take (i := 1) (fuel := 20) (v := ?_) (by rw [List.getElem?_toArray]; rfl) (by kernel_rfl) (by kernel_rfl) (by kernel_rfl) hHeld ?_ ?_ ?_ ?_
      rotate_left
      · intro u hSw
        go_simp
        try with_reducible rfl
      · rfl
      · exact fun _ _ _ h => h
      try simp only [Act.put, List.setIfInBounds_toArray, List.set_cons_zero, List.set_cons_succ]
      refine held_take (i := 2) (fuel := 19) (v := ?_) (by rw [List.getElem?_toArray]; rfl) (by kernel_rfl) (by kernel_rfl) (by kernel_rfl) hHeld ?_ ?_ ?_ ?_
      rotate_left
      · intro u hSw
        go_simp
        try with_reducible rfl
      · rfl
      · exact fun _ _ _ h => h
      try simp only [Act.put, List.setIfInBounds_toArray, List.set_cons_zero, List.set_cons_succ]
      refine held_take (i := 3) (fuel := 18) (v := ?_) (by rw [List.getElem?_toArray]; rfl) (by kernel_rfl) (by kernel_rfl) (by kernel_rfl) hHeld ?_ ?_ ?_ ?_
      rotate_left
      · intro u hSw
        obtain ⟨c0, c1, c2, c3, c4⟩ := hce.out u hSw
        go_simp
        try with_reducible rfl
      · rfl
      · exact fun _ _ _ h => h
      try simp only [Act.put, List.setIfInBounds_toArray, List.set_cons_zero, List.set_cons_succ]
      refine held_take (i := 5) (fuel := 17) (v := ?_) (by rw [List.getElem?_toArray]; rfl) (by kernel_rfl) (by kernel_rfl) (by kernel_rfl) hHeld ?_ ?_ ?_ ?_
      rotate_left
      · intro u hSw
        obtain ⟨c0, c1, c2, c3, c4⟩ := hce.out u hSw
        go_simp
        try with_reducible rfl
      · rfl
      · exact fun _ _ _ h => h
      try simp only [Act.put, List.setIfInBounds_toArray, List.set_cons_zero, List.set_cons_succ]
      refine held_one (i := 4) (fuel := 16) (by kernel_rfl) (by rw [List.getElem?_toArray]; rfl) (fun K hK => ?_)
      go_simp
      refine (HF1.out _).mono ?_
      rintro f w3 ⟨rfl, hb3⟩
      refine hK.out _ _ ?_ (fun hHeld => ?_)
      · exact hHeld.trans (hb3.mono hHeld.size)
      clear hK K
      try simp only [Act.put, List.setIfInBounds_toArray, List.set_cons_zero, List.set_cons_succ]
      refine held_one (i := 6) (fuel := 15) (by kernel_rfl) (by rw [List.getElem?_toArray]; rfl) (fun K hK => ?_)
      go_simp
      refine (HF2.out _).mono ?_
      rintro f w4 ⟨rfl, hb4⟩
      refine hK.out _ _ ?_ (fun hHeld => ?_)
      · exact hHeld.trans (hb4.mono hHeld.size)
      clear hK K
      try simp only [Act.put, List.setIfInBounds_toArray, List.set_cons_zero, List.set_cons_succ]
      refine held_take (i := 7) (fuel := 14) (v := ?_) (by rw [List.getElem?_toArray]; rfl) (by kernel_rfl) (by kernel_rfl) (by kernel_rfl) hHeld ?_ ?_ ?_ ?_
      rotate_left
      · intro u hSw
        go_simp
        try with_reducible rfl
      · rfl
      · exact fun _ _ _ h => h
      try simp only [Act.put, List.setIfInBounds_toArray, List.set_cons_zero, List.set_cons_succ]
      refine held_take (i := 8) (fuel := 13) (v := ?_) (by rw [List.getElem?_toArray]; rfl) (by kernel_rfl) (by kernel_rfl) (by kernel_rfl) hHeld ?_ ?_ ?_ ?_
      rotate_left
      · intro u hSw
        go_simp
        try with_reducible rfl
      · rfl
      · exact fun _ _ _ h => h
      try simp only [Act.put, List.setIfInBounds_toArray, List.set_cons_zero, List.set_cons_succ]
      refine held_take (i := 9) (fuel := 12) (v := ?_) (by rw [List.getElem?_toArray]; rfl) (by kernel_rfl) (by kernel_rfl) (by kernel_rfl) hHeld ?_ ?_ ?_ ?_
      rotate_left
      · intro u hSw
        go_simp
        try with_reducible rfl
      · rfl
      · exact fun _ _ _ h => h
      try simp only [Act.put, List.setIfInBounds_toArray, List.set_cons_zero, List.set_cons_succ]
      refine held_skip (i := 10) (fuel := 11) (by rw [List.getElem?_toArray]; rfl) (by kernel_rfl) (by kernel_rfl) (by kernel_rfl) hHeld ?_ ?_ ?_
      · rfl
      · exact fun _ _ _ h => h
      try simp only [Act.put, List.setIfInBounds_toArray, List.set_cons_zero, List.set_cons_succ]
      refine held_skip (i := 11) (fuel := 10) (by rw [List.getElem?_toArray]; rfl) (by kernel_rfl) (by kernel_rfl) (by kernel_rfl) hHeld ?_ ?_ ?_
      · rfl
      · exact fun _ _ _ h => h
      try simp only [Act.put, List.setIfInBounds_toArray, List.set_cons_zero, List.set_cons_succ]
      refine held_skip (i := 12) (fuel := 9) (by rw [List.getElem?_toArray]; rfl) (by kernel_rfl) (by kernel_rfl) (by kernel_rfl) hHeld ?_ ?_ ?_
      · rfl
      · exact fun _ _ _ h => h
      try simp only [Act.put, List.setIfInBounds_toArray, List.set_cons_zero, List.set_cons_succ]
      refine held_skip (i := 13) (fuel := 8) (by rw [List.getElem?_toArray]; rfl) (by kernel_rfl) (by kernel_rfl) (by kernel_rfl) hHeld ?_ ?_ ?_
      · rfl
      · exact fun _ _ _ h => h
      try simp only [Act.put, List.setIfInBounds_toArray, List.set_cons_zero, List.set_cons_succ]
      refine held_take (i := 14) (fuel := 7) (v := ?_) (by rw [List.getElem?_toArray]; rfl) (by kernel_rfl) (by kernel_rfl) (by kernel_rfl) hHeld ?_ ?_ ?_ ?_
      rotate_left
      · intro u hSw
        go_simp
        try with_reducible rfl
      · rfl
      · exact fun _ _ _ h => h
      try simp only [Act.put, List.setIfInBounds_toArray, List.set_cons_zero, List.set_cons_succ]
      refine held_take (i := 15) (fuel := 6) (v := ?_) (by rw [List.getElem?_toArray]; rfl) (by kernel_rfl) (by kernel_rfl) (by kernel_rfl) hHeld ?_ ?_ ?_ ?_
      rotate_left
      · intro u hSw
        go_simp
        try with_reducible rfl
      · rfl
      · exact fun _ _ _ h => h
      try simp only [Act.put, List.setIfInBounds_toArray, List.set_cons_zero, List.set_cons_succ]
      refine held_skip (i := 16) (fuel := 5) (by rw [List.getElem?_toArray]; rfl) (by kernel_rfl) (by kernel_rfl) (by kernel_rfl) hHeld ?_ ?_ ?_
      · rfl
      · exact fun _ _ _ h => h
      try simp only [Act.put, List.setIfInBounds_toArray, List.set_cons_zero, List.set_cons_succ]
      refine held_skip (i := 17) (fuel := 4) (by rw [List.getElem?_toArray]; rfl) (by kernel_rfl) (by kernel_rfl) (by kernel_rfl) hHeld ?_ ?_ ?_
      · rfl
      · exact fun _ _ _ h => h
      try simp only [Act.put, List.setIfInBounds_toArray, List.set_cons_zero, List.set_cons_succ]
      refine held_skip (i := 18) (fuel := 3) (by rw [List.getElem?_toArray]; rfl) (by kernel_rfl) (by kernel_rfl) (by kernel_rfl) hHeld ?_ ?_ ?_
      · rfl
      · exact fun _ _ _ h => h
      try simp only [Act.put, List.setIfInBounds_toArray, List.set_cons_zero, List.set_cons_succ]
      refine held_skip (i := 19) (fuel := 2) (by rw [List.getElem?_toArray]; rfl) (by kernel_rfl) (by kernel_rfl) (by kernel_rfl) hHeld ?_ ?_ ?_
      · rfl
      · exact fun _ _ _ h => h
      try simp only [Act.put, List.setIfInBounds_toArray, List.set_cons_zero, List.set_cons_succ]
      refine held_take (i := 20) (fuel := 1) (v := ?_) (by rw [List.getElem?_toArray]; rfl) (by kernel_rfl) (by kernel_rfl) (by kernel_rfl) hHeld ?_ ?_ ?_ ?_
      rotate_left
      · intro u hSw
        go_simp
        try with_reducible rfl
      · rfl
      · exact fun _ _ _ h => h
      try simp only [Act.put, List.setIfInBounds_toArray, List.set_cons_zero, List.set_cons_succ]
      refine held_take (i := 21) (fuel := 0) (v := ?_) (by rw [List.getElem?_toArray]; rfl) (by kernel_rfl) (by kernel_rfl) (by kernel_rfl) hHeld ?_ ?_ ?_ ?_
      rotate_left
      · intro u hSw
        go_simp
        try with_reducible rfl
      · rfl
      · exact fun _ _ _ h => h
      try simp only [Act.put, List.setIfInBounds_toArray, List.set_cons_zero, List.set_cons_succ]
      refine wpAnyH_done (by kernel_rfl) ?_ _
      have HF := Lib.hid (HB1.out.trans (hHeld.mono HB1.out.size))
      go_wp2_with fail
      go_ret
      exact ⟨rfl, HF.out⟩
    | true =>
      rw [Bool.true_and]
      cases q2 with
      | false =>
        rw [Bool.false_and]
        go_enter Try.func33, Try.ntmps33
        go_wp2_with fail
        rw [← hW]
        clear wq wq2
        refine (targsCheck_any ⟨tx, cl, kN, kE, kS, F⟩ (d : Int) false W).mono ?_
        rintro f w1 ⟨bc, bg, bs', bd, rfl, hck, hb1⟩
        have HB1 : Hid (Below w.heap.size w w1) := Lib.hid (HBW.out.trans (hb1.mono HBW.out.size))
        have hcg : Hid (∀ u : World, Below w1.heap.size w1 u → u.cell? ⟨w.heap.size, 0, none⟩ = some (.int .i64 tx) ∧ u.cell? ⟨w.heap.size, 1, none⟩ = some (.int .i64 cl) ∧ u.cell? ⟨w.heap.size, 2, none⟩ = some (.func (.func kN) #[] #[]) ∧ u.cell? ⟨w.heap.size, 3, none⟩ = some (.func (.func kE) F #[]) ∧ u.cell? ⟨w.heap.size, 4, none⟩ = some (.func (.func kS) F #[])) := Lib.hid (fun u hb => by
          have hk : Blk w1 (w.heap.size) 51 #[.int .i64 tx, .int .i64 cl, .func (.func kN) #[] #[], .func (.func kE) F #[], .func (.func kS) F #[]] := (HG.out).below hb1 HG.out.lt
          have hk2 := hk.below hb hk.lt
          exact ⟨hk2.cell 0, hk2.cell 1, hk2.cell 2, hk2.cell 3, hk2.cell 4⟩)
        have hce : Hid (∀ u : World, Below w1.heap.size w1 u → u.cell? ⟨w.heap.size + 1, 0, none⟩ = some (.int .i64 xk) ∧ u.cell? ⟨w.heap.size + 1, 1, none⟩ = some (.int .i64 xo) ∧ u.cell? ⟨w.heap.size + 1, 2, none⟩ = some (.int .i64 xm) ∧ u.cell? ⟨w.heap.size + 1, 3, none⟩ = some (.string (bs xs)) ∧ u.cell? ⟨w.heap.size + 1, 4, none⟩ = some (.slice xA xn xc')) := Lib.hid (fun u hb => by
          have hk : Blk w1 (w.heap.size + 1) 24 #[.int .i64 xk, .int .i64 xo, .int .i64 xm, .string (bs xs), .slice xA xn xc'] := (HE.out).below hb1 HE.out.lt
          have hk2 := hk.below hb hk.lt
          exact ⟨hk2.cell 0, hk2.cell 1, hk2.cell 2, hk2.cell 3, hk2.cell 4⟩)
        have HCK := Lib.hid hck
        clear hb1 hck hW
        go_wp2_with fail
        refine wp_region_held_drew (S := Below w1.heap.size w1) (by kernel_rfl) (Below.refl _ _).drew (fun hHeld => ?_)
        refine held_take (i := 0) (fuel := 21) (v := ?_) (by rw [List.getElem?_toArray]; rfl) (by kernel_rfl) (by kernel_rfl) (by kernel_rfl) hHeld ?_ ?_ ?_ ?_
        rotate_left
        · intro u hSw
          go_simp
          try with_reducible rfl
        · rfl
        · exact fun _ _ _ h => h
        try simp only [Act.put, List.setIfInBounds_toArray, List.set_cons_zero, List.set_cons_succ]
        refine held_take (i := 1) (fuel := 20) (v := ?_) (by rw [List.getElem?_toArray]; rfl) (by kernel_rfl) (by kernel_rfl) (by kernel_rfl) hHeld ?_ ?_ ?_ ?_
        rotate_left
        · intro u hSw
          go_simp
          try with_reducible rfl
        · rfl
        · exact fun _ _ _ h => h
        try simp only [Act.put, List.setIfInBounds_toArray, List.set_cons_zero, List.set_cons_succ]
        refine held_take (i := 2) (fuel := 19) (v := ?_) (by rw [List.getElem?_toArray]; rfl) (by kernel_rfl) (by kernel_rfl) (by kernel_rfl) hHeld ?_ ?_ ?_ ?_
        rotate_left
        · intro u hSw
          go_simp
          try with_reducible rfl
        · rfl
        · exact fun _ _ _ h => h
        try simp only [Act.put, List.setIfInBounds_toArray, List.set_cons_zero, List.set_cons_succ]
        refine held_take (i := 3) (fuel := 18) (v := ?_) (by rw [List.getElem?_toArray]; rfl) (by kernel_rfl) (by kernel_rfl) (by kernel_rfl) hHeld ?_ ?_ ?_ ?_
        rotate_left
        · intro u hSw
          obtain ⟨c0, c1, c2, c3, c4⟩ := hce.out u hSw
          go_simp
          try with_reducible rfl
        · rfl
        · exact fun _ _ _ h => h
        try simp only [Act.put, List.setIfInBounds_toArray, List.set_cons_zero, List.set_cons_succ]
        refine held_take (i := 5) (fuel := 17) (v := ?_) (by rw [List.getElem?_toArray]; rfl) (by kernel_rfl) (by kernel_rfl) (by kernel_rfl) hHeld ?_ ?_ ?_ ?_
        rotate_left
        · intro u hSw
          obtain ⟨c0, c1, c2, c3, c4⟩ := hce.out u hSw
          go_simp
          try with_reducible rfl
        · rfl
        · exact fun _ _ _ h => h
        try simp only [Act.put, List.setIfInBounds_toArray, List.set_cons_zero, List.set_cons_succ]
        refine held_one (i := 4) (fuel := 16) (by kernel_rfl) (by rw [List.getElem?_toArray]; rfl) (fun K hK => ?_)
        go_simp
        refine (HF1.out _).mono ?_
        rintro f w3 ⟨rfl, hb3⟩
        refine hK.out _ _ ?_ (fun hHeld => ?_)
        · exact hHeld.trans (hb3.mono hHeld.size)
        clear hK K
        try simp only [Act.put, List.setIfInBounds_toArray, List.set_cons_zero, List.set_cons_succ]
        refine held_one (i := 6) (fuel := 15) (by kernel_rfl) (by rw [List.getElem?_toArray]; rfl) (fun K hK => ?_)
        go_simp
        refine (HF2.out _).mono ?_
        rintro f w4 ⟨rfl, hb4⟩
        refine hK.out _ _ ?_ (fun hHeld => ?_)
        · exact hHeld.trans (hb4.mono hHeld.size)
        clear hK K
        try simp only [Act.put, List.setIfInBounds_toArray, List.set_cons_zero, List.set_cons_succ]
        refine held_take (i := 7) (fuel := 14) (v := ?_) (by rw [List.getElem?_toArray]; rfl) (by kernel_rfl) (by kernel_rfl) (by kernel_rfl) hHeld ?_ ?_ ?_ ?_
        rotate_left
        · intro u hSw
          go_simp
          try with_reducible rfl
        · rfl
        · exact fun _ _ _ h => h
        try simp only [Act.put, List.setIfInBounds_toArray, List.set_cons_zero, List.set_cons_succ]
        refine held_take (i := 8) (fuel := 13) (v := ?_) (by rw [List.getElem?_toArray]; rfl) (by kernel_rfl) (by kernel_rfl) (by kernel_rfl) hHeld ?_ ?_ ?_ ?_
        rotate_left
        · intro u hSw
          go_simp
          try with_reducible rfl
        · rfl
        · exact fun _ _ _ h => h
        try simp only [Act.put, List.setIfInBounds_toArray, List.set_cons_zero, List.set_cons_succ]
        refine held_take (i := 9) (fuel := 12) (v := ?_) (by rw [List.getElem?_toArray]; rfl) (by kernel_rfl) (by kernel_rfl) (by kernel_rfl) hHeld ?_ ?_ ?_ ?_
        rotate_left
        · intro u hSw
          go_simp
          try with_reducible rfl
        · rfl
        · exact fun _ _ _ h => h
        try simp only [Act.put, List.setIfInBounds_toArray, List.set_cons_zero, List.set_cons_succ]
        refine held_take (i := 10) (fuel := 11) (v := ?_) (by rw [List.getElem?_toArray]; rfl) (by kernel_rfl) (by kernel_rfl) (by kernel_rfl) hHeld ?_ ?_ ?_ ?_
        rotate_left
        · intro u hSw
          go_simp
          try with_reducible rfl
        · rfl
        · exact fun _ _ _ h => h
        try simp only [Act.put, List.setIfInBounds_toArray, List.set_cons_zero, List.set_cons_succ]
        refine held_take (i := 11) (fuel := 10) (v := ?_) (by rw [List.getElem?_toArray]; rfl) (by kernel_rfl) (by kernel_rfl) (by kernel_rfl) hHeld ?_ ?_ ?_ ?_
        rotate_left
        · intro u hSw
          obtain ⟨c0, c1, c2, c3, c4⟩ := hcg.out u hSw
          go_simp
          try with_reducible rfl
        · rfl
        · exact fun _ _ _ h => h
        try simp only [Act.put, List.setIfInBounds_toArray, List.set_cons_zero, List.set_cons_succ]
        refine held_take (i := 12) (fuel := 9) (v := ?_) (by rw [List.getElem?_toArray]; rfl) (by kernel_rfl) (by kernel_rfl) (by kernel_rfl) hHeld ?_ ?_ ?_ ?_
        rotate_left
        · intro u hSw
          obtain ⟨c0, c1, c2, c3, c4⟩ := hce.out u hSw
          go_simp
          try with_reducible rfl
        · rfl
        · exact fun _ _ _ h => h
        try simp only [Act.put, List.setIfInBounds_toArray, List.set_cons_zero, List.set_cons_succ]
        refine held_one (i := 13) (fuel := 8) (by kernel_rfl) (by rw [List.getElem?_toArray]; rfl) (fun K hK => ?_)
        go_simp
        refine (HXC.out _ (HB1.out.trans (hHeld.mono HB1.out.size))).mono ?_
        rintro f w5 ⟨rfl, hb5⟩
        refine hK.out _ _ ?_ (fun hHeld => ?_)
        · exact hHeld.trans (hb5.mono hHeld.size)
        clear hK K
        try simp only [Act.put, List.setIfInBounds_toArray, List.set_cons_zero, List.set_cons_succ]
        refine held_take (i := 14) (fuel := 7) (v := ?_) (by rw [List.getElem?_toArray]; rfl) (by kernel_rfl) (by kernel_rfl) (by kernel_rfl) hHeld ?_ ?_ ?_ ?_
        rotate_left
        · intro u hSw
          go_simp
          try with_reducible rfl
        · rfl
        · exact fun _ _ _ h => h
        try simp only [Act.put, List.setIfInBounds_toArray, List.set_cons_zero, List.set_cons_succ]
        refine held_take (i := 15) (fuel := 6) (v := ?_) (by rw [List.getElem?_toArray]; rfl) (by kernel_rfl) (by kernel_rfl) (by kernel_rfl) hHeld ?_ ?_ ?_ ?_
        rotate_left
        · intro u hSw
          go_simp
          try with_reducible rfl
        · rfl
        · exact fun _ _ _ h => h
        try simp only [Act.put, List.setIfInBounds_toArray, List.set_cons_zero, List.set_cons_succ]
        refine held_skip (i := 16) (fuel := 5) (by rw [List.getElem?_toArray]; rfl) (by kernel_rfl) (by kernel_rfl) (by kernel_rfl) hHeld ?_ ?_ ?_
        · rfl
        · exact fun _ _ _ h => h
        try simp only [Act.put, List.setIfInBounds_toArray, List.set_cons_zero, List.set_cons_succ]
        refine held_skip (i := 17) (fuel := 4) (by rw [List.getElem?_toArray]; rfl) (by kernel_rfl) (by kernel_rfl) (by kernel_rfl) hHeld ?_ ?_ ?_
        · rfl
        · exact fun _ _ _ h => h
        try simp only [Act.put, List.setIfInBounds_toArray, List.set_cons_zero, List.set_cons_succ]
        refine held_skip (i := 18) (fuel := 3) (by rw [List.getElem?_toArray]; rfl) (by kernel_rfl) (by kernel_rfl) (by kernel_rfl) hHeld ?_ ?_ ?_
        · rfl
        · exact fun _ _ _ h => h
        try simp only [Act.put, List.setIfInBounds_toArray, List.set_cons_zero, List.set_cons_succ]
        refine held_skip (i := 19) (fuel := 2) (by rw [List.getElem?_toArray]; rfl) (by kernel_rfl) (by kernel_rfl) (by kernel_rfl) hHeld ?_ ?_ ?_
        · rfl
        · exact fun _ _ _ h => h
        try simp only [Act.put, List.setIfInBounds_toArray, List.set_cons_zero, List.set_cons_succ]
        refine held_take (i := 20) (fuel := 1) (v := ?_) (by rw [List.getElem?_toArray]; rfl) (by kernel_rfl) (by kernel_rfl) (by kernel_rfl) hHeld ?_ ?_ ?_ ?_
        rotate_left
        · intro u hSw
          go_simp
          try with_reducible rfl
        · rfl
        · exact fun _ _ _ h => h
        try simp only [Act.put, List.setIfInBounds_toArray, List.set_cons_zero, List.set_cons_succ]
        refine held_take (i := 21) (fuel := 0) (v := ?_) (by rw [List.getElem?_toArray]; rfl) (by kernel_rfl) (by kernel_rfl) (by kernel_rfl) hHeld ?_ ?_ ?_ ?_
        rotate_left
        · intro u hSw
          go_simp
          try with_reducible rfl
        · rfl
        · exact fun _ _ _ h => h
        try simp only [Act.put, List.setIfInBounds_toArray, List.set_cons_zero, List.set_cons_succ]
        refine wpAnyH_done (by kernel_rfl) ?_ _
        have HF := Lib.hid (HB1.out.trans (hHeld.mono HB1.out.size))
        go_wp2_with fail
        go_ret
        exact ⟨rfl, HF.out⟩
      | true =>
        rw [Bool.true_and]
        go_enter Try.func33, Try.ntmps33
        go_wp2_with fail
        rw [← hW]
        clear wq wq2
        refine (targsCheck_any ⟨tx, cl, kN, kE, kS, F⟩ (d : Int) false W).mono ?_
        rintro f w1 ⟨bc, bg, bs', bd, rfl, hck, hb1⟩
        have HB1 : Hid (Below w.heap.size w w1) := Lib.hid (HBW.out.trans (hb1.mono HBW.out.size))
        have hcg : Hid (∀ u : World, Below w1.heap.size w1 u → u.cell? ⟨w.heap.size, 0, none⟩ = some (.int .i64 tx) ∧ u.cell? ⟨w.heap.size, 1, none⟩ = some (.int .i64 cl) ∧ u.cell? ⟨w.heap.size, 2, none⟩ = some (.func (.func kN) #[] #[]) ∧ u.cell? ⟨w.heap.size, 3, none⟩ = some (.func (.func kE) F #[]) ∧ u.cell? ⟨w.heap.size, 4, none⟩ = some (.func (.func kS) F #[])) := Lib.hid (fun u hb => by
          have hk : Blk w1 (w.heap.size) 51 #[.int .i64 tx, .int .i64 cl, .func (.func kN) #[] #[], .func (.func kE) F #[], .func (.func kS) F #[]] := (HG.out).below hb1 HG.out.lt
          have hk2 := hk.below hb hk.lt
          exact ⟨hk2.cell 0, hk2.cell 1, hk2.cell 2, hk2.cell 3, hk2.cell 4⟩)
        have hce : Hid (∀ u : World, Below w1.heap.size w1 u → u.cell? ⟨w.heap.size + 1, 0, none⟩ = some (.int .i64 xk) ∧ u.cell? ⟨w.heap.size + 1, 1, none⟩ = some (.int .i64 xo) ∧ u.cell? ⟨w.heap.size + 1, 2, none⟩ = some (.int .i64 xm) ∧ u.cell? ⟨w.heap.size + 1, 3, none⟩ = some (.string (bs xs)) ∧ u.cell? ⟨w.heap.size + 1, 4, none⟩ = some (.slice xA xn xc')) := Lib.hid (fun u hb => by
          have hk : Blk w1 (w.heap.size + 1) 24 #[.int .i64 xk, .int .i64 xo, .int .i64 xm, .string (bs xs), .slice xA xn xc'] := (HE.out).below hb1 HE.out.lt
          have hk2 := hk.below hb hk.lt
          exact ⟨hk2.cell 0, hk2.cell 1, hk2.cell 2, hk2.cell 3, hk2.cell 4⟩)
        have HCK := Lib.hid hck
        clear hb1 hck hW
        go_wp2_with fail
        have HARG : Hid (∀ u : World, Below w1.heap.size w1 u → Calls Try.prog 76 #[.slice xA xn xc', .pointer (some ⟨bc, 0, none⟩)] u fun f w' => f = .returned (.bool q3) ∧ Below u.heap.size u w') := Lib.hid (fun u hb => HAC.out u bc bg bs' bd (HB1.out.trans (hb.mono HB1.out.size)) (HCK.out.below hb))
        refine wp_region_held_drew (S := Below w1.heap.size w1) (by kernel_rfl) (Below.refl _ _).drew (fun hHeld => ?_)
        refine held_take (i := 0) (fuel := 21) (v := ?_) (by rw [List.getElem?_toArray]; rfl) (by kernel_rfl) (by kernel_rfl) (by kernel_rfl) hHeld ?_ ?_ ?_ ?_
        rotate_left
        · intro u hSw
          go_simp
          try with_reducible rfl
        · rfl
        · exact fun _ _ _ h => h
        try simp only [Act.put, List.setIfInBounds_toArray, List.set_cons_zero, List.set_cons_succ]
        refine held_take (i := 1) (fuel := 20) (v := ?_) (by rw [List.getElem?_toArray]; rfl) (by kernel_rfl) (by kernel_rfl) (by kernel_rfl) hHeld ?_ ?_ ?_ ?_
        rotate_left
        · intro u hSw
          go_simp
          try with_reducible rfl
        · rfl
        · exact fun _ _ _ h => h
        try simp only [Act.put, List.setIfInBounds_toArray, List.set_cons_zero, List.set_cons_succ]
        refine held_take (i := 2) (fuel := 19) (v := ?_) (by rw [List.getElem?_toArray]; rfl) (by kernel_rfl) (by kernel_rfl) (by kernel_rfl) hHeld ?_ ?_ ?_ ?_
        rotate_left
        · intro u hSw
          go_simp
          try with_reducible rfl
        · rfl
        · exact fun _ _ _ h => h
        try simp only [Act.put, List.setIfInBounds_toArray, List.set_cons_zero, List.set_cons_succ]
        refine held_take (i := 3) (fuel := 18) (v := ?_) (by rw [List.getElem?_toArray]; rfl) (by kernel_rfl) (by kernel_rfl) (by kernel_rfl) hHeld ?_ ?_ ?_ ?_
        rotate_left
        · intro u hSw
          obtain ⟨c0, c1, c2, c3, c4⟩ := hce.out u hSw
          go_simp
          try with_reducible rfl
        · rfl
        · exact fun _ _ _ h => h
        try simp only [Act.put, List.setIfInBounds_toArray, List.set_cons_zero, List.set_cons_succ]
        refine held_take (i := 5) (fuel := 17) (v := ?_) (by rw [List.getElem?_toArray]; rfl) (by kernel_rfl) (by kernel_rfl) (by kernel_rfl) hHeld ?_ ?_ ?_ ?_
        rotate_left
        · intro u hSw
          obtain ⟨c0, c1, c2, c3, c4⟩ := hce.out u hSw
          go_simp
          try with_reducible rfl
        · rfl
        · exact fun _ _ _ h => h
        try simp only [Act.put, List.setIfInBounds_toArray, List.set_cons_zero, List.set_cons_succ]
        refine held_one (i := 4) (fuel := 16) (by kernel_rfl) (by rw [List.getElem?_toArray]; rfl) (fun K hK => ?_)
        go_simp
        refine (HF1.out _).mono ?_
        rintro f w3 ⟨rfl, hb3⟩
        refine hK.out _ _ ?_ (fun hHeld => ?_)
        · exact hHeld.trans (hb3.mono hHeld.size)
        clear hK K
        try simp only [Act.put, List.setIfInBounds_toArray, List.set_cons_zero, List.set_cons_succ]
        refine held_one (i := 6) (fuel := 15) (by kernel_rfl) (by rw [List.getElem?_toArray]; rfl) (fun K hK => ?_)
        go_simp
        refine (HF2.out _).mono ?_
        rintro f w4 ⟨rfl, hb4⟩
        refine hK.out _ _ ?_ (fun hHeld => ?_)
        · exact hHeld.trans (hb4.mono hHeld.size)
        clear hK K
        try simp only [Act.put, List.setIfInBounds_toArray, List.set_cons_zero, List.set_cons_succ]
        refine held_take (i := 7) (fuel := 14) (v := ?_) (by rw [List.getElem?_toArray]; rfl) (by kernel_rfl) (by kernel_rfl) (by kernel_rfl) hHeld ?_ ?_ ?_ ?_
        rotate_left
        · intro u hSw
          go_simp
          try with_reducible rfl
        · rfl
        · exact fun _ _ _ h => h
        try simp only [Act.put, List.setIfInBounds_toArray, List.set_cons_zero, List.set_cons_succ]
        refine held_take (i := 8) (fuel := 13) (v := ?_) (by rw [List.getElem?_toArray]; rfl) (by kernel_rfl) (by kernel_rfl) (by kernel_rfl) hHeld ?_ ?_ ?_ ?_
        rotate_left
        · intro u hSw
          go_simp
          try with_reducible rfl
        · rfl
        · exact fun _ _ _ h => h
        try simp only [Act.put, List.setIfInBounds_toArray, List.set_cons_zero, List.set_cons_succ]
        refine held_take (i := 9) (fuel := 12) (v := ?_) (by rw [List.getElem?_toArray]; rfl) (by kernel_rfl) (by kernel_rfl) (by kernel_rfl) hHeld ?_ ?_ ?_ ?_
        rotate_left
        · intro u hSw
          go_simp
          try with_reducible rfl
        · rfl
        · exact fun _ _ _ h => h
        try simp only [Act.put, List.setIfInBounds_toArray, List.set_cons_zero, List.set_cons_succ]
        refine held_take (i := 10) (fuel := 11) (v := ?_) (by rw [List.getElem?_toArray]; rfl) (by kernel_rfl) (by kernel_rfl) (by kernel_rfl) hHeld ?_ ?_ ?_ ?_
        rotate_left
        · intro u hSw
          go_simp
          try with_reducible rfl
        · rfl
        · exact fun _ _ _ h => h
        try simp only [Act.put, List.setIfInBounds_toArray, List.set_cons_zero, List.set_cons_succ]
        refine held_take (i := 11) (fuel := 10) (v := ?_) (by rw [List.getElem?_toArray]; rfl) (by kernel_rfl) (by kernel_rfl) (by kernel_rfl) hHeld ?_ ?_ ?_ ?_
        rotate_left
        · intro u hSw
          obtain ⟨c0, c1, c2, c3, c4⟩ := hcg.out u hSw
          go_simp
          try with_reducible rfl
        · rfl
        · exact fun _ _ _ h => h
        try simp only [Act.put, List.setIfInBounds_toArray, List.set_cons_zero, List.set_cons_succ]
        refine held_take (i := 12) (fuel := 9) (v := ?_) (by rw [List.getElem?_toArray]; rfl) (by kernel_rfl) (by kernel_rfl) (by kernel_rfl) hHeld ?_ ?_ ?_ ?_
        rotate_left
        · intro u hSw
          obtain ⟨c0, c1, c2, c3, c4⟩ := hce.out u hSw
          go_simp
          try with_reducible rfl
        · rfl
        · exact fun _ _ _ h => h
        try simp only [Act.put, List.setIfInBounds_toArray, List.set_cons_zero, List.set_cons_succ]
        refine held_one (i := 13) (fuel := 8) (by kernel_rfl) (by rw [List.getElem?_toArray]; rfl) (fun K hK => ?_)
        go_simp
        refine (HXC.out _ (HB1.out.trans (hHeld.mono HB1.out.size))).mono ?_
        rintro f w5 ⟨rfl, hb5⟩
        refine hK.out _ _ ?_ (fun hHeld => ?_)
        · exact hHeld.trans (hb5.mono hHeld.size)
        clear hK K
        try simp only [Act.put, List.setIfInBounds_toArray, List.set_cons_zero, List.set_cons_succ]
        refine held_take (i := 14) (fuel := 7) (v := ?_) (by rw [List.getElem?_toArray]; rfl) (by kernel_rfl) (by kernel_rfl) (by kernel_rfl) hHeld ?_ ?_ ?_ ?_
        rotate_left
        · intro u hSw
          go_simp
          try with_reducible rfl
        · rfl
        · exact fun _ _ _ h => h
        try simp only [Act.put, List.setIfInBounds_toArray, List.set_cons_zero, List.set_cons_succ]
        refine held_take (i := 15) (fuel := 6) (v := ?_) (by rw [List.getElem?_toArray]; rfl) (by kernel_rfl) (by kernel_rfl) (by kernel_rfl) hHeld ?_ ?_ ?_ ?_
        rotate_left
        · intro u hSw
          go_simp
          try with_reducible rfl
        · rfl
        · exact fun _ _ _ h => h
        try simp only [Act.put, List.setIfInBounds_toArray, List.set_cons_zero, List.set_cons_succ]
        refine held_take (i := 16) (fuel := 5) (v := ?_) (by rw [List.getElem?_toArray]; rfl) (by kernel_rfl) (by kernel_rfl) (by kernel_rfl) hHeld ?_ ?_ ?_ ?_
        rotate_left
        · intro u hSw
          go_simp
          try with_reducible rfl
        · rfl
        · exact fun _ _ _ h => h
        try simp only [Act.put, List.setIfInBounds_toArray, List.set_cons_zero, List.set_cons_succ]
        refine held_take (i := 17) (fuel := 4) (v := ?_) (by rw [List.getElem?_toArray]; rfl) (by kernel_rfl) (by kernel_rfl) (by kernel_rfl) hHeld ?_ ?_ ?_ ?_
        rotate_left
        · intro u hSw
          go_simp
          try with_reducible rfl
        · rfl
        · exact fun _ _ _ h => h
        try simp only [Act.put, List.setIfInBounds_toArray, List.set_cons_zero, List.set_cons_succ]
        refine held_take (i := 18) (fuel := 3) (v := ?_) (by rw [List.getElem?_toArray]; rfl) (by kernel_rfl) (by kernel_rfl) (by kernel_rfl) hHeld ?_ ?_ ?_ ?_
        rotate_left
        · intro u hSw
          obtain ⟨c0, c1, c2, c3, c4⟩ := hce.out u hSw
          go_simp
          try with_reducible rfl
        · rfl
        · exact fun _ _ _ h => h
        try simp only [Act.put, List.setIfInBounds_toArray, List.set_cons_zero, List.set_cons_succ]
        refine held_one (i := 19) (fuel := 2) (by kernel_rfl) (by rw [List.getElem?_toArray]; rfl) (fun K hK => ?_)
        go_simp
        refine (HARG.out _ hHeld).mono ?_
        rintro f w6 ⟨rfl, hb6⟩
        refine hK.out _ _ ?_ (fun hHeld => ?_)
        · exact hHeld.trans (hb6.mono hHeld.size)
        clear hK K
        try simp only [Act.put, List.setIfInBounds_toArray, List.set_cons_zero, List.set_cons_succ]
        refine held_take (i := 20) (fuel := 1) (v := ?_) (by rw [List.getElem?_toArray]; rfl) (by kernel_rfl) (by kernel_rfl) (by kernel_rfl) hHeld ?_ ?_ ?_ ?_
        rotate_left
        · intro u hSw
          go_simp
          try with_reducible rfl
        · rfl
        · exact fun _ _ _ h => h
        try simp only [Act.put, List.setIfInBounds_toArray, List.set_cons_zero, List.set_cons_succ]
        refine held_take (i := 21) (fuel := 0) (v := ?_) (by rw [List.getElem?_toArray]; rfl) (by kernel_rfl) (by kernel_rfl) (by kernel_rfl) hHeld ?_ ?_ ?_ ?_
        rotate_left
        · intro u hSw
          go_simp
          try with_reducible rfl
        · rfl
        · exact fun _ _ _ h => h
        try simp only [Act.put, List.setIfInBounds_toArray, List.set_cons_zero, List.set_cons_succ]
        refine wpAnyH_done (by kernel_rfl) ?_ _
        have HF := Lib.hid (HB1.out.trans (hHeld.mono HB1.out.size))
        go_wp2_with fail
        go_ret
        exact ⟨rfl, HF.out⟩

section
variable (X : EL → Bool) (Y : SL → Bool) (lb : SL → Int × List UInt8) (tx cl : Int)
/-- may a statement be, but for its lists of statements -/
def hdS (d : Nat) (s : SL) : Bool := decide (s.fv = s.form (lb s).1 (lb s).2) && Y s && s.args.all (inE X tx (decide (s.kind = 1)) d) && (decide (s.kind ≠ 19) || decide ((s.args[0]?.getD nilE).kind = cl))
/-- may a statement be, its lists of that depth at most -/
def vS : Nat → SL → Bool
  | 0, s => hdS X Y lb tx cl 0 s && s.body.isEmpty && s.els.isEmpty
  | d + 1, s => hdS X Y lb tx cl (d + 1) s && (s.body.isEmpty || (decide (s.body.length ≤ 256) && s.body.all (vS d))) && (s.els.isEmpty || (decide (s.els.length ≤ 256) && s.els.all (vS d)))
/-- may a list of statements be, of that depth at most -/
def vB : Nat → List SL → Bool
  | 0, l => l.isEmpty
  | d + 1, l => l.isEmpty || (decide (l.length ≤ 256) && l.all (vS X Y lb tx cl d))
end
theorem vS_eq (X : EL → Bool) (Y : SL → Bool) (lb : SL → Int × List UInt8) (tx cl : Int) (d : Nat) (s : SL) : vS X Y lb tx cl d s = (hdS X Y lb tx cl d s && vB X Y lb tx cl d s.body && vB X Y lb tx cl d s.els) := by
  cases d <;> rfl

/-- what validStmt, validBlock do at a depth -/
def VSAt (w0 : World) (G : LG) (X : EL → Bool) (Y : SL → Bool) (lb : SL → Int × List UInt8) (d : Nat) : Prop := ∀ (s : SL) (w : World), Below w0.heap.size w0 w → s.In w w.heap.size →
  Calls Try.prog 59 #[G.val, sVal s, .int .i64 (d : Int)] w fun f w' => f = .returned (.bool (vS X Y lb G.tx G.cl d s)) ∧ Below w.heap.size w w'
def VBAt (w0 : World) (G : LG) (X : EL → Bool) (Y : SL → Bool) (lb : SL → Int × List UInt8) (d : Nat) : Prop := ∀ (ss : List SL) (A : Option Addr) (n c : Nat) (w : World), Below w0.heap.size w0 w → RowS6 w w.heap.size A n ss → SL.Ins w w.heap.size ss →
  Calls Try.prog 35 #[G.val, .slice A n c, .int .i64 (d : Int)] w fun f w' => f = .returned (.bool (vB X Y lb G.tx G.cl d ss)) ∧ Below w.heap.size w w'

theorem entersB1 : Enters 58 := ⟨_, Try.func58, by kernel_rfl, by kernel_rfl⟩

set_option maxRecDepth 100000 in
set_option maxHeartbeats 6400000 in
theorem tblock1_any (w0 : World) (G : LG) (X : EL → Bool) (Y : SL → Bool) (lb : SL → Int × List UInt8) (d D : Nat) (hD : D = d + 1) (hd : (D : Int) ≤ 100000) (hV : VSAt w0 G X Y lb d) (bg bd : Nat) (s : SL) (w : World) (hg : Blk w bg 51 G.cells) (hb : Blk w bd 3 #[.int .i64 (D : Int)]) (hw : Below w0.heap.size w0 w) (hin : s.In w w.heap.size) :
    Calls Try.prog 58 #[sVal s, .pointer (some ⟨bg, 0, none⟩), .pointer (some ⟨bd, 0, none⟩)] w fun f w' => f = .returned (.bool (!vS X Y lb G.tx G.cl d s)) ∧ Below w.heap.size w w' := by
  obtain ⟨q, hq⟩ : ∃ q, q = vS X Y lb G.tx G.cl d s := ⟨_, rfl⟩
  have HC := Lib.hid (fun (W : World) (hb : Below w.heap.size w W) => hV s W (hw.trans (hb.mono hw.size)) (SL.In.more hb.size (hin.below hb)))
  rw [← hq]
  simp only [← hq] at HC
  obtain ⟨tx, cl, kN, kE, kS, F⟩ := G
  have c0 : ∀ o : Obj, (w.alloc o).cell? ⟨bg, 0, none⟩ = some (.int .i64 tx) := fun o => (hg.alloc o).cell 0
  have c1 : ∀ o : Obj, (w.alloc o).cell? ⟨bg, 1, none⟩ = some (.int .i64 cl) := fun o => (hg.alloc o).cell 1
  have c2 : ∀ o : Obj, (w.alloc o).cell? ⟨bg, 2, none⟩ = some (.func (.func kN) #[] #[]) := fun o => (hg.alloc o).cell 2
  have c3 : ∀ o : Obj, (w.alloc o).cell? ⟨bg, 3, none⟩ = some (.func (.func kE) F #[]) := fun o => (hg.alloc o).cell 3
  have c4 : ∀ o : Obj, (w.alloc o).cell? ⟨bg, 4, none⟩ = some (.func (.func kS) F #[]) := fun o => (hg.alloc o).cell 4
  have c5 : ∀ o : Obj, (w.alloc o).cell? ⟨bd, 0, none⟩ = some (.int .i64 (D : Int)) := fun o => (hb.alloc o).cell 0
  have wq : IntKind.i64.wrap ((D : Int) - 1) = (d : Int) := by rw [IntKind.wrap_i64]; omega
  have wq2 : wrap64 ((D : Int) - 1) = (d : Int) := by rw [IntWalk.wrap64_in _ (by omega)]; omega
  clear hq hg hb hw hin hV hd hD
  obtain ⟨xk, xm, xs, xA, xn, xc', xes, xA1, xn1, xc1, xbo, xA2, xn2, xc2, xel⟩ := s
  show Calls Try.prog _ #[.agg #[.int .i64 xk, .int .i64 xm, .string (bs xs), .slice xA xn xc', .slice xA1 xn1 xc1, .slice xA2 xn2 xc2], .pointer (some ⟨bg, 0, none⟩), .pointer (some ⟨bd, 0, none⟩)] w fun f w' => f = .returned (.bool (!q)) ∧ Below w.heap.size w w'
  obtain ⟨W, hW⟩ : ∃ W, W = w.alloc (.cells #[.int .i64 xk, .int .i64 xm, .string (bs xs), .slice xA xn xc', .slice xA1 xn1 xc1, .slice xA2 xn2 xc2] 47) := ⟨_, rfl⟩
  have HBW : Hid (Below w.heap.size w W) := Lib.hid (by rw [hW]; exact (Below.refl _ _).alloc (Nat.le_refl _) _)
  go_enter Try.func58, Try.ntmps58
  go_wp2_with fail
  rw [← hW]
  clear hW wq wq2
  refine (HC.out W HBW.out).mono ?_
  rintro f w2 ⟨rfl, hb2⟩
  go_wp2_with fail
  go_ret
  exact ⟨rfl, HBW.out.trans (hb2.mono HBW.out.size)⟩

set_option maxRecDepth 100000 in
set_option maxHeartbeats 6400000 in
theorem tvalidBlock_zero (w0 : World) (G : LG) (X : EL → Bool) (Y : SL → Bool) (lb : SL → Int × List UInt8) : VBAt w0 G X Y lb 0 := by
  intro ss A n c w hw hA hAi
  have hmf : ∀ (fn : Fn) (first cap : Array Value) (w : World), (Instr.makeFunc fn first cap).run Try.prog w = .ok (.func fn first cap) w := fun _ _ _ _ => rfl
  have hn := hA.1
  have hn9 := hA.2.1
  show Calls Try.prog _ #[G.val, .slice A n c, .int .i64 0] w fun f w' => f = .returned (.bool ss.isEmpty) ∧ Below w.heap.size w w'
  obtain ⟨gc, hgc⟩ : ∃ gc, gc = G.cells := ⟨_, rfl⟩
  unfold LG.val
  rw [← hgc]
  clear hw hA hAi hgc
  cases ss with
  | nil =>
    obtain rfl : 0 = n := hn
    go_enter Try.func35, Try.ntmps35
    go_wp2_with fail
    go_ret
    exact ⟨rfl, ((Below.refl _ _).alloc (Nat.le_refl _) _).alloc (by simp) _⟩
  | cons x r =>
    have t0 : ((n : Int) == 0) = false := by rw [beq_eq_false_iff_ne]; rw [List.length_cons] at hn; omega
    clear hn
    go_enter Try.func35, Try.ntmps35
    go_wp2_with fail
    go_ret
    exact ⟨rfl, ((Below.refl _ _).alloc (Nat.le_refl _) _).alloc (by simp) _⟩

set_option maxRecDepth 100000 in
set_option maxHeartbeats 6400000 in
theorem tvalidBlock_succ (w0 : World) (G : LG) (X : EL → Bool) (Y : SL → Bool) (lb : SL → Int × List UInt8) (d : Nat) (hd : ((d + 1 : Nat) : Int) ≤ 100000) (hV : VSAt w0 G X Y lb d) : VBAt w0 G X Y lb (d + 1) := by
  intro ss A n c w hw hA hAi
  have hmf : ∀ (fn : Fn) (first cap : Array Value) (w : World), (Instr.makeFunc fn first cap).run Try.prog w = .ok (.func fn first cap) w := fun _ _ _ _ => rfl
  have hn := hA.1
  have hn9 := hA.2.1
  obtain ⟨D, hD⟩ : ∃ D : Nat, D = d + 1 := ⟨_, rfl⟩
  obtain ⟨gc, hgc⟩ : ∃ gc, gc = G.cells := ⟨_, rfl⟩
  obtain ⟨q, hq⟩ : ∃ q, q = ss.any (fun s => !vS X Y lb G.tx G.cl d s) := ⟨_, rfl⟩
  have hres : vB X Y lb G.tx G.cl (d + 1) ss = (ss.isEmpty || (decide (ss.length ≤ 256) && !q)) := by
    have e : ss.all (vS X Y lb G.tx G.cl d) = !q := by
      rw [hq, List.any_eq_not_all_not, Bool.not_not]
      congr 1
      funext x
      rw [Bool.not_not]
    rw [← e]
    rfl
  rw [hres, ← hD]
  have HC : Hid (∀ W : World, Below w.heap.size w W → Blk W w.heap.size 51 gc → Blk W (w.heap.size + 1) 3 #[.int .i64 (D : Int)] → Calls Try.prog 60 #[.slice A n c, .func (.func 58) #[] #[.pointer (some ⟨w.heap.size, 0, none⟩), .pointer (some ⟨w.heap.size + 1, 0, none⟩)]] W fun f w' => f = .returned (.bool q) ∧ Below W.heap.size W w') := Lib.hid (fun W hb hg hd2 => by
    rw [hq]
    exact tContainsS_any (fun s => !vS X Y lb G.tx G.cl d s) _ #[.pointer (some ⟨w.heap.size, 0, none⟩), .pointer (some ⟨w.heap.size + 1, 0, none⟩)] entersB1 ss A n c W W (Below.refl _ _)
      (Lib.hid (fun U hbU x _ hx => tblock1_any w0 G X Y lb d D hD (by rw [hD]; exact hd) hV _ _ x U (by rw [← hgc]; exact hg.below hbU hg.lt) (hd2.below hbU hd2.lt) ((hw.trans (hb.mono hw.size)).trans (hbU.mono (hw.trans (hb.mono hw.size)).size)) hx))
      ((RowS6.below hA hb).more hb.size) ((SL.Ins.below hAi hb).more hb.size))
  have hD0 : 0 < (D : Int) := by omega
  have hd2 : decide (0 < D) = true := by rw [decide_eq_true_eq]; omega
  unfold LG.val
  rw [← hgc]
  clear hw hA hAi hgc hq hres hV hd hD
  by_cases h0 : ss = []
  · subst h0
    obtain rfl : 0 = n := hn
    go_enter Try.func35, Try.ntmps35
    go_wp2_with fail
    go_ret
    exact ⟨rfl, ((Below.refl _ _).alloc (Nat.le_refl _) _).alloc (by simp) _⟩
  · have hln : ss.length ≠ 0 := fun h => h0 (List.eq_nil_of_length_eq_zero h)
    have t0 : ((n : Int) == 0) = false := by rw [beq_eq_false_iff_ne]; omega
    have hem : ss.isEmpty = false := by cases ss with | nil => exact absurd rfl h0 | cons _ _ => rfl
    by_cases h256 : n ≤ 256
    · have HR : Hid ((ss.isEmpty || (decide (ss.length ≤ 256) && !q)) = !q) := Lib.hid (by rw [hem, Bool.false_or, decide_eq_true (by omega), Bool.true_and])
      have t1 : decide (n ≤ 256) = true := by rw [decide_eq_true_eq]; exact h256
      have t2 : (n : Int) ≤ 256 := by omega
      rw [HR.out]
      clear hn h0 hln hem h256
      go_enter Try.func35, Try.ntmps35
      go_wp2_with fail
      refine (HC.out _ (((Below.refl _ _).alloc (Nat.le_refl _) _).alloc (by simp) _) ((Blk.new w _ _).alloc _) (Blk.new_at _ _ _ _ (by simp))).mono ?_
      rintro f w2 ⟨rfl, hb2⟩
      have HBF : Hid (Below w.heap.size w w2) := Lib.hid ((((Below.refl _ _).alloc (Nat.le_refl _) _).alloc (by simp) _).trans (hb2.mono (by simp; omega)))
      clear hb2
      go_wp2_with fail
      go_ret
      exact ⟨rfl, HBF.out⟩
    · have HR : Hid ((ss.isEmpty || (decide (ss.length ≤ 256) && !q)) = false) := Lib.hid (by rw [hem, Bool.false_or, decide_eq_false (by omega), Bool.false_and])
      have t1 : decide ((n : Int) ≤ 256) = false := by rw [decide_eq_false_iff_not]; omega
      rw [HR.out]
      clear hn h0 hln hem h256
      go_enter Try.func35, Try.ntmps35
      go_wp2_with fail
      go_ret
      exact ⟨rfl, ((Below.refl _ _).alloc (Nat.le_refl _) _).alloc (by simp) _⟩

theorem form19 {s : SL} {lm : Int} {ls : List UInt8} (h : s.fv = s.form lm ls) (hk : s.kind = 19) : s.n = 1 := by
  have e : s.fv.args = (s.form lm ls).args := by rw [h]
  unfold SL.form at e
  simp [hk] at e
  unfold SL.fv at e
  simp at e
  omega

set_option maxRecDepth 100000 in
set_option maxHeartbeats 6400000 in
theorem tvalidStmt_of (w0 : World) (G : LG) (X : EL → Bool) (Y : SL → Bool) (lb : SL → Int × List UInt8) (hok : LGok w0 G X Y lb) (d : Nat) (hd : (d : Int) ≤ 100000) (hV : VEAt w0 G X d) (hB : VBAt w0 G X Y lb d) : VSAt w0 G X Y lb d := by
  intro s w hw hin
  rw [vS_eq]
  obtain ⟨hp, hi1, hi2⟩ := hin.parts
  have hrow := hp.2.2.1.1
  have hargs := hp.2.2.1.2
  have hr1 := hp.2.2.2.1
  have hr2 := hp.2.2.2.2
  obtain ⟨sv, hsv⟩ : ∃ v, v = sVal s := ⟨_, rfl⟩
  obtain ⟨lv, hlv⟩ : ∃ v, v = lbV (lb s).1 (lb s).2 := ⟨_, rfl⟩
  obtain ⟨v1, hv1⟩ : ∃ v, v = s.fv.val := ⟨_, rfl⟩
  obtain ⟨v2, hv2⟩ : ∃ v, v = (s.form (lb s).1 (lb s).2).val := ⟨_, rfl⟩
  obtain ⟨q1, hq1⟩ : ∃ q, q = decide (s.fv = s.form (lb s).1 (lb s).2) := ⟨_, rfl⟩
  obtain ⟨q2, hq2⟩ : ∃ q, q = Y s := ⟨_, rfl⟩
  obtain ⟨sd, hsd⟩ : ∃ q, q = decide (s.kind = 1) := ⟨_, rfl⟩
  obtain ⟨q3, hq3⟩ : ∃ q, q = s.args.all (inE X G.tx sd d) := ⟨_, rfl⟩
  obtain ⟨q4, hq4⟩ : ∃ q, q = (decide (s.kind ≠ 19) || decide ((s.args[0]?.getD nilE).kind = G.cl)) := ⟨_, rfl⟩
  obtain ⟨b1, hb1⟩ : ∃ q, q = vB X Y lb G.tx G.cl d s.body := ⟨_, rfl⟩
  obtain ⟨b2, hb2⟩ : ∃ q, q = vB X Y lb G.tx G.cl d s.els := ⟨_, rfl⟩
  have hres : hdS X Y lb G.tx G.cl d s = (q1 && q2 && q3 && q4) := by rw [hq1, hq2, hq3, hq4, hsd]; rfl
  have hn1 : q1 = true → s.kind = 19 → s.n = 1 := fun h hk => form19 (of_decide_eq_true (hq1.symm.trans h)) hk
  have heq : ∀ W : World, (binOp .neq 61 v1 v2).run Try.prog W = .ok (.bool (!q1)) W := fun W => by rw [hv1, hv2, hq1]; exact run_neq_fv _ _ W
  have hgd : ∀ (a b : Operand) (W : World), (eqGuard .neq 61 a b v1 v2).run Try.prog W = .ok () W := fun a b W => by rw [hv1, hv2]; exact guard_fv _ _ _ _ _ W
  have hf1 : ∀ W : World, Calls Try.prog 68 #[sv] W fun f w' => f = .returned v1 ∧ Below W.heap.size W w' := fun W => by rw [hv1, hsv]; exact tstmtFields_any s W
  have hf2 : ∀ W : World, Calls Try.prog 81 #[sv, lv] W fun f w' => f = .returned v2 ∧ Below W.heap.size W w' := fun W => by rw [hv2, hsv, hlv]; exact tstmtForm_any s _ _ W
  have hNC : ∀ W : World, Below w.heap.size w W → Calls Try.prog G.kN #[sv] W fun f w' => f = .returned lv ∧ Below W.heap.size W w' := fun W hb => by rw [hsv, hlv]; exact hok.hN s W (hw.trans (hb.mono hw.size)) (SL.In.more hb.size (hin.below hb))
  have hYC : ∀ W : World, Below w.heap.size w W → Calls Try.prog G.kS (G.F ++ #[sv]) W fun f w' => f = .returned (.bool q2) ∧ Below W.heap.size W w' := fun W hb => by rw [hsv, hq2]; exact hok.hS s W (hw.trans (hb.mono hw.size)) (SL.In.more hb.size (hin.below hb))
  have hAC : ∀ (W : World) (bc bg bs' bd : Nat), Below w.heap.size w W → Ck W G (d : Int) sd bc bg bs' bd → Calls Try.prog 76 #[.slice s.A s.n s.c, .pointer (some ⟨bc, 0, none⟩)] W fun f w' => f = .returned (.bool q3) ∧ Below W.heap.size W w' := fun W bc bg bs' bd hb hck => by
    rw [hq3]
    exact targs2_any w0 G X d hV sd bc bg bs' bd s.args s.A s.n s.c W hck (hw.trans (hb.mono hw.size)) ((RowE.below hrow hb).more hb.size) ((EL.Ins.below hargs hb).more hb.size)
  have hBC : ∀ W : World, Below w.heap.size w W → Calls Try.prog 35 #[G.val, .slice s.A1 s.n1 s.c1, .int .i64 (d : Int)] W fun f w' => f = .returned (.bool b1) ∧ Below W.heap.size W w' := fun W hb => by
    rw [hb1]
    exact hB s.body s.A1 s.n1 s.c1 W (hw.trans (hb.mono hw.size)) ((RowS6.below hr1 hb).more hb.size) ((SL.Ins.below hi1 hb).more hb.size)
  have hEC : ∀ W : World, Below w.heap.size w W → Calls Try.prog 35 #[G.val, .slice s.A2 s.n2 s.c2, .int .i64 (d : Int)] W fun f w' => f = .returned (.bool b2) ∧ Below W.heap.size W w' := fun W hb => by
    rw [hb2]
    exact hB s.els s.A2 s.n2 s.c2 W (hw.trans (hb.mono hw.size)) ((RowS6.below hr2 hb).more hb.size) ((SL.Ins.below hi2 hb).more hb.size)
  have hkN := hok.eN.run
  have hkS := hok.eS.run
  rw [hres, ← hb1, ← hb2, ← hsv]
  clear hok hV hB hw hin hargs hr1 hr2 hi1 hi2 hp hq1 hq2 hq3 hv1 hv2 hlv hb1 hb2 hres hd
  obtain ⟨tx, cl, kN, kE, kS, F⟩ := G
  simp only at hYC hkS hNC hkN hq4
  obtain ⟨xk, xm, xs, xA, xn, xc', xes, xA1, xn1, xc1, xbo, xA2, xn2, xc2, xel⟩ := s
  have hsv2 : sv = .agg #[.int .i64 xk, .int .i64 xm, .string (bs xs), .slice xA xn xc', .slice xA1 xn1 xc1, .slice xA2 xn2 xc2] := hsv
  have hsd2 : (xk == 1) = sd := by
    rw [hsd]
    show (xk == 1) = decide (xk = 1)
    rw [beqX]
  clear hsv hsd
  subst hsv2
  change RowE w w.heap.size xA xn xes at hrow
  change q1 = true → xk = 19 → xn = 1 at hn1
  change q4 = (decide (xk ≠ 19) || decide ((xes[0]?.getD nilE).kind = cl)) at hq4
  have HYC := Lib.hid hYC
  have HNC := Lib.hid hNC
  have HAC := Lib.hid hAC
  have HBC := Lib.hid hBC
  have HEC := Lib.hid hEC
  have HF1 := Lib.hid hf1
  have HF2 := Lib.hid hf2
  have HROW := Lib.hid hrow
  have HN1 := Lib.hid hn1
  have HQ4 := Lib.hid hq4
  clear hYC hNC hAC hBC hEC hf1 hf2 hrow hn1 hq4
  show Calls Try.prog _ #[.agg #[.int .i64 tx, .int .i64 cl, .func (.func kN) #[] #[], .func (.func kE) F #[], .func (.func kS) F #[]], .agg #[.int .i64 xk, .int .i64 xm, .string (bs xs), .slice xA xn xc', .slice xA1 xn1 xc1, .slice xA2 xn2 xc2], .int .i64 (d : Int)] w fun f w' => f = .returned (.bool ((q1 && q2 && q3 && q4) && b1 && b2)) ∧ Below w.heap.size w w'
  obtain ⟨W, hW⟩ : ∃ W, W = ((w.alloc (.cells #[.int .i64 tx, .int .i64 cl, .func (.func kN) #[] #[], .func (.func kE) F #[], .func (.func kS) F #[]] 51)).alloc (.cells #[.int .i64 xk, .int .i64 xm, .string (bs xs), .slice xA xn xc', .slice xA1 xn1 xc1, .slice xA2 xn2 xc2] 47)) := ⟨_, rfl⟩
  have HBW : Hid (Below w.heap.size w W) := Lib.hid (by rw [hW]; exact ((Below.refl _ _).alloc (Nat.le_refl _) _).alloc (by simp) _)
  have HG : Hid (Blk W w.heap.size 51 #[.int .i64 tx, .int .i64 cl, .func (.func kN) #[] #[], .func (.func kE) F #[], .func (.func kS) F #[]]) := Lib.hid (by rw [hW]; exact (Blk.new w _ _).alloc _)
  have HS : Hid (Blk W (w.heap.size + 1) 47 #[.int .i64 xk, .int .i64 xm, .string (bs xs), .slice xA xn xc', .slice xA1 xn1 xc1, .slice xA2 xn2 xc2]) := Lib.hid (by rw [hW]; exact Blk.new_at _ _ _ _ (by simp))
  cases q1 with
  | false =>
    go_enter Try.func59, Try.ntmps59
    go_wp2_with fail
    rw [← hW]
    refine (targsCheck_any ⟨tx, cl, kN, kE, kS, F⟩ (d : Int) sd W).mono ?_
    rintro f w1 ⟨bc, bg, bs', bd, rfl, hck, hb1⟩
    have HB1 : Hid (Below w.heap.size w w1) := Lib.hid (HBW.out.trans (hb1.mono HBW.out.size))
    have hcg : Hid (∀ u : World, Below w1.heap.size w1 u → u.cell? ⟨w.heap.size, 0, none⟩ = some (.int .i64 tx) ∧ u.cell? ⟨w.heap.size, 1, none⟩ = some (.int .i64 cl) ∧ u.cell? ⟨w.heap.size, 2, none⟩ = some (.func (.func kN) #[] #[]) ∧ u.cell? ⟨w.heap.size, 3, none⟩ = some (.func (.func kE) F #[]) ∧ u.cell? ⟨w.heap.size, 4, none⟩ = some (.func (.func kS) F #[])) := Lib.hid (fun u hb => by
      have hk : Blk w1 (w.heap.size) 51 #[.int .i64 tx, .int .i64 cl, .func (.func kN) #[] #[], .func (.func kE) F #[], .func (.func kS) F #[]] := (HG.out).below hb1 HG.out.lt
      have hk2 := hk.below hb hk.lt
      exact ⟨hk2.cell 0, hk2.cell 1, hk2.cell 2, hk2.cell 3, hk2.cell 4⟩)
    have hcs : Hid (∀ u : World, Below w1.heap.size w1 u → u.cell? ⟨w.heap.size + 1, 0, none⟩ = some (.int .i64 xk) ∧ u.cell? ⟨w.heap.size + 1, 1, none⟩ = some (.int .i64 xm) ∧ u.cell? ⟨w.heap.size + 1, 2, none⟩ = some (.string (bs xs)) ∧ u.cell? ⟨w.heap.size + 1, 3, none⟩ = some (.slice xA xn xc') ∧ u.cell? ⟨w.heap.size + 1, 4, none⟩ = some (.slice xA1 xn1 xc1) ∧ u.cell? ⟨w.heap.size + 1, 5, none⟩ = some (.slice xA2 xn2 xc2)) := Lib.hid (fun u hb => by
      have hk : Blk w1 (w.heap.size + 1) 47 #[.int .i64 xk, .int .i64 xm, .string (bs xs), .slice xA xn xc', .slice xA1 xn1 xc1, .slice xA2 xn2 xc2] := (HS.out).below hb1 HS.out.lt
      have hk2 := hk.below hb hk.lt
      exact ⟨hk2.cell 0, hk2.cell 1, hk2.cell 2, hk2.cell 3, hk2.cell 4, hk2.cell 5⟩)
    have HCK := Lib.hid hck
    clear hb1 hck hW
    have HARG : Hid (∀ u : World, Below w1.heap.size w1 u → Calls Try.prog 76 #[.slice xA xn xc', .pointer (some ⟨bc, 0, none⟩)] u fun f w' => f = .returned (.bool q3) ∧ Below u.heap.size u w') := Lib.hid (fun u hb => HAC.out u bc bg bs' bd (HB1.out.trans (hb.mono HB1.out.size)) (HCK.out.below hb))
    go_wp2_with fail
    refine wp_region_held_drew (S := Below w1.heap.size w1) (by kernel_rfl) (Below.refl _ _).drew (fun hHeld => ?_)
    refine held_take (i := 0) (fuel := 9) (v := ?_) (by rw [List.getElem?_toArray]; rfl) (by kernel_rfl) (by kernel_rfl) (by kernel_rfl) hHeld ?_ ?_ ?_ ?_
    rotate_left
    · intro u hSw
      obtain ⟨c0, c1, c2, c3, c4, c5⟩ := hcs.out u hSw
      go_simp
      try with_reducible rfl
    · rfl
    · exact fun _ _ _ h => h
    try simp only [Act.put, List.setIfInBounds_toArray, List.set_cons_zero, List.set_cons_succ]
    refine held_take (i := 2) (fuel := 8) (v := ?_) (by rw [List.getElem?_toArray]; rfl) (by kernel_rfl) (by kernel_rfl) (by kernel_rfl) hHeld ?_ ?_ ?_ ?_
    rotate_left
    · intro u hSw
      obtain ⟨c0, c1, c2, c3, c4, c5⟩ := hcs.out u hSw
      go_simp
      try with_reducible rfl
    · rfl
    · exact fun _ _ _ h => h
    try simp only [Act.put, List.setIfInBounds_toArray, List.set_cons_zero, List.set_cons_succ]
    refine held_take (i := 3) (fuel := 7) (v := ?_) (by rw [List.getElem?_toArray]; rfl) (by kernel_rfl) (by kernel_rfl) (by kernel_rfl) hHeld ?_ ?_ ?_ ?_
    rotate_left
    · intro u hSw
      go_simp
      try with_reducible rfl
    · rfl
    · exact fun _ _ _ h => h
    try simp only [Act.put, List.setIfInBounds_toArray, List.set_cons_zero, List.set_cons_succ]
    refine held_take (i := 4) (fuel := 6) (v := ?_) (by rw [List.getElem?_toArray]; rfl) (by kernel_rfl) (by kernel_rfl) (by kernel_rfl) hHeld ?_ ?_ ?_ ?_
    rotate_left
    · intro u hSw
      obtain ⟨c0, c1, c2, c3, c4⟩ := hcg.out u hSw
      go_simp
      try with_reducible rfl
    · rfl
    · exact fun _ _ _ h => h
    try simp only [Act.put, List.setIfInBounds_toArray, List.set_cons_zero, List.set_cons_succ]
    refine held_take (i := 5) (fuel := 5) (v := ?_) (by rw [List.getElem?_toArray]; rfl) (by kernel_rfl) (by kernel_rfl) (by kernel_rfl) hHeld ?_ ?_ ?_ ?_
    rotate_left
    · intro u hSw
      obtain ⟨c0, c1, c2, c3, c4, c5⟩ := hcs.out u hSw
      go_simp
      try with_reducible rfl
    · rfl
    · exact fun _ _ _ h => h
    try simp only [Act.put, List.setIfInBounds_toArray, List.set_cons_zero, List.set_cons_succ]
    refine held_one (i := 1) (fuel := 4) (by kernel_rfl) (by rw [List.getElem?_toArray]; rfl) (fun K hK => ?_)
    go_simp
    refine (HF1.out _).mono ?_
    rintro f w3 ⟨rfl, hb3⟩
    refine hK.out _ _ ?_ (fun hHeld => ?_)
    · exact hHeld.trans (hb3.mono hHeld.size)
    clear hK K
    try simp only [Act.put, List.setIfInBounds_toArray, List.set_cons_zero, List.set_cons_succ]
    refine held_one (i := 6) (fuel := 3) (by kernel_rfl) (by rw [List.getElem?_toArray]; rfl) (fun K hK => ?_)
    go_simp
    refine (HNC.out _ (HB1.out.trans (hHeld.mono HB1.out.size))).mono ?_
    rintro f w4 ⟨rfl, hb4⟩
    refine hK.out _ _ ?_ (fun hHeld => ?_)
    · exact hHeld.trans (hb4.mono hHeld.size)
    clear hK K
    try simp only [Act.put, List.setIfInBounds_toArray, List.set_cons_zero, List.set_cons_succ]
    refine held_one (i := 7) (fuel := 2) (by kernel_rfl) (by rw [List.getElem?_toArray]; rfl) (fun K hK => ?_)
    go_simp
    refine (HF2.out _).mono ?_
    rintro f w5 ⟨rfl, hb5⟩
    refine hK.out _ _ ?_ (fun hHeld => ?_)
    · exact hHeld.trans (hb5.mono hHeld.size)
    clear hK K
    try simp only [Act.put, List.setIfInBounds_toArray, List.set_cons_zero, List.set_cons_succ]
    refine held_take (i := 8) (fuel := 1) (v := ?_) (by rw [List.getElem?_toArray]; rfl) (by kernel_rfl) (by kernel_rfl) (by kernel_rfl) hHeld ?_ ?_ ?_ ?_
    rotate_left
    · intro u hSw
      go_simp
      try with_reducible rfl
    · rfl
    · exact fun _ _ _ h => h
    try simp only [Act.put, List.setIfInBounds_toArray, List.set_cons_zero, List.set_cons_succ]
    refine held_take (i := 9) (fuel := 0) (v := ?_) (by rw [List.getElem?_toArray]; rfl) (by kernel_rfl) (by kernel_rfl) (by kernel_rfl) hHeld ?_ ?_ ?_ ?_
    rotate_left
    · intro u hSw
      go_simp
      try with_reducible rfl
    · rfl
    · exact fun _ _ _ h => h
    try simp only [Act.put, List.setIfInBounds_toArray, List.set_cons_zero, List.set_cons_succ]
    refine wpAnyH_done (by kernel_rfl) ?_ _
    have HF5 : Hid (Below w1.heap.size w1 w5) := Lib.hid hHeld
    clear hHeld
    go_wp2_with fail
    go_ret
    exact ⟨rfl, HB1.out.trans (HF5.out.mono HB1.out.size)⟩
    
  | true =>
    go_enter Try.func59, Try.ntmps59
    go_wp2_with fail
    rw [← hW]
    refine (targsCheck_any ⟨tx, cl, kN, kE, kS, F⟩ (d : Int) sd W).mono ?_
    rintro f w1 ⟨bc, bg, bs', bd, rfl, hck, hb1⟩
    have HB1 : Hid (Below w.heap.size w w1) := Lib.hid (HBW.out.trans (hb1.mono HBW.out.size))
    have hcg : Hid (∀ u : World, Below w1.heap.size w1 u → u.cell? ⟨w.heap.size, 0, none⟩ = some (.int .i64 tx) ∧ u.cell? ⟨w.heap.size, 1, none⟩ = some (.int .i64 cl) ∧ u.cell? ⟨w.heap.size, 2, none⟩ = some (.func (.func kN) #[] #[]) ∧ u.cell? ⟨w.heap.size, 3, none⟩ = some (.func (.func kE) F #[]) ∧ u.cell? ⟨w.heap.size, 4, none⟩ = some (.func (.func kS) F #[])) := Lib.hid (fun u hb => by
      have hk : Blk w1 (w.heap.size) 51 #[.int .i64 tx, .int .i64 cl, .func (.func kN) #[] #[], .func (.func kE) F #[], .func (.func kS) F #[]] := (HG.out).below hb1 HG.out.lt
      have hk2 := hk.below hb hk.lt
      exact ⟨hk2.cell 0, hk2.cell 1, hk2.cell 2, hk2.cell 3, hk2.cell 4⟩)
    have hcs : Hid (∀ u : World, Below w1.heap.size w1 u → u.cell? ⟨w.heap.size + 1, 0, none⟩ = some (.int .i64 xk) ∧ u.cell? ⟨w.heap.size + 1, 1, none⟩ = some (.int .i64 xm) ∧ u.cell? ⟨w.heap.size + 1, 2, none⟩ = some (.string (bs xs)) ∧ u.cell? ⟨w.heap.size + 1, 3, none⟩ = some (.slice xA xn xc') ∧ u.cell? ⟨w.heap.size + 1, 4, none⟩ = some (.slice xA1 xn1 xc1) ∧ u.cell? ⟨w.heap.size + 1, 5, none⟩ = some (.slice xA2 xn2 xc2)) := Lib.hid (fun u hb => by
      have hk : Blk w1 (w.heap.size + 1) 47 #[.int .i64 xk, .int .i64 xm, .string (bs xs), .slice xA xn xc', .slice xA1 xn1 xc1, .slice xA2 xn2 xc2] := (HS.out).below hb1 HS.out.lt
      have hk2 := hk.below hb hk.lt
      exact ⟨hk2.cell 0, hk2.cell 1, hk2.cell 2, hk2.cell 3, hk2.cell 4, hk2.cell 5⟩)
    have HCK := Lib.hid hck
    clear hb1 hck hW
    have HARG : Hid (∀ u : World, Below w1.heap.size w1 u → Calls Try.prog 76 #[.slice xA xn xc', .pointer (some ⟨bc, 0, none⟩)] u fun f w' => f = .returned (.bool q3) ∧ Below u.heap.size u w') := Lib.hid (fun u hb => HAC.out u bc bg bs' bd (HB1.out.trans (hb.mono HB1.out.size)) (HCK.out.below hb))
    go_wp2_with fail
    refine wp_region_held_drew (S := Below w1.heap.size w1) (by kernel_rfl) (Below.refl _ _).drew (fun hHeld => ?_)
    refine held_take (i := 0) (fuel := 9) (v := ?_) (by rw [List.getElem?_toArray]; rfl) (by kernel_rfl) (by kernel_rfl) (by kernel_rfl) hHeld ?_ ?_ ?_ ?_
    rotate_left
    · intro u hSw
      obtain ⟨c0, c1, c2, c3, c4, c5⟩ := hcs.out u hSw
      go_simp
      try with_reducible rfl
    · rfl
    · exact fun _ _ _ h => h
    try simp only [Act.put, List.setIfInBounds_toArray, List.set_cons_zero, List.set_cons_succ]
    refine held_take (i := 2) (fuel := 8) (v := ?_) (by rw [List.getElem?_toArray]; rfl) (by kernel_rfl) (by kernel_rfl) (by kernel_rfl) hHeld ?_ ?_ ?_ ?_
    rotate_left
    · intro u hSw
      obtain ⟨c0, c1, c2, c3, c4, c5⟩ := hcs.out u hSw
      go_simp
      try with_reducible rfl
    · rfl
    · exact fun _ _ _ h => h
    try simp only [Act.put, List.setIfInBounds_toArray, List.set_cons_zero, List.set_cons_succ]
    refine held_take (i := 3) (fuel := 7) (v := ?_) (by rw [List.getElem?_toArray]; rfl) (by kernel_rfl) (by kernel_rfl) (by kernel_rfl) hHeld ?_ ?_ ?_ ?_
    rotate_left
    · intro u hSw
      go_simp
      try with_reducible rfl
    · rfl
    · exact fun _ _ _ h => h
    try simp only [Act.put, List.setIfInBounds_toArray, List.set_cons_zero, List.set_cons_succ]
    refine held_take (i := 4) (fuel := 6) (v := ?_) (by rw [List.getElem?_toArray]; rfl) (by kernel_rfl) (by kernel_rfl) (by kernel_rfl) hHeld ?_ ?_ ?_ ?_
    rotate_left
    · intro u hSw
      obtain ⟨c0, c1, c2, c3, c4⟩ := hcg.out u hSw
      go_simp
      try with_reducible rfl
    · rfl
    · exact fun _ _ _ h => h
    try simp only [Act.put, List.setIfInBounds_toArray, List.set_cons_zero, List.set_cons_succ]
    refine held_take (i := 5) (fuel := 5) (v := ?_) (by rw [List.getElem?_toArray]; rfl) (by kernel_rfl) (by kernel_rfl) (by kernel_rfl) hHeld ?_ ?_ ?_ ?_
    rotate_left
    · intro u hSw
      obtain ⟨c0, c1, c2, c3, c4, c5⟩ := hcs.out u hSw
      go_simp
      try with_reducible rfl
    · rfl
    · exact fun _ _ _ h => h
    try simp only [Act.put, List.setIfInBounds_toArray, List.set_cons_zero, List.set_cons_succ]
    refine held_one (i := 1) (fuel := 4) (by kernel_rfl) (by rw [List.getElem?_toArray]; rfl) (fun K hK => ?_)
    go_simp
    refine (HF1.out _).mono ?_
    rintro f w3 ⟨rfl, hb3⟩
    refine hK.out _ _ ?_ (fun hHeld => ?_)
    · exact hHeld.trans (hb3.mono hHeld.size)
    clear hK K
    try simp only [Act.put, List.setIfInBounds_toArray, List.set_cons_zero, List.set_cons_succ]
    refine held_one (i := 6) (fuel := 3) (by kernel_rfl) (by rw [List.getElem?_toArray]; rfl) (fun K hK => ?_)
    go_simp
    refine (HNC.out _ (HB1.out.trans (hHeld.mono HB1.out.size))).mono ?_
    rintro f w4 ⟨rfl, hb4⟩
    refine hK.out _ _ ?_ (fun hHeld => ?_)
    · exact hHeld.trans (hb4.mono hHeld.size)
    clear hK K
    try simp only [Act.put, List.setIfInBounds_toArray, List.set_cons_zero, List.set_cons_succ]
    refine held_one (i := 7) (fuel := 2) (by kernel_rfl) (by rw [List.getElem?_toArray]; rfl) (fun K hK => ?_)
    go_simp
    refine (HF2.out _).mono ?_
    rintro f w5 ⟨rfl, hb5⟩
    refine hK.out _ _ ?_ (fun hHeld => ?_)
    · exact hHeld.trans (hb5.mono hHeld.size)
    clear hK K
    try simp only [Act.put, List.setIfInBounds_toArray, List.set_cons_zero, List.set_cons_succ]
    refine held_take (i := 8) (fuel := 1) (v := ?_) (by rw [List.getElem?_toArray]; rfl) (by kernel_rfl) (by kernel_rfl) (by kernel_rfl) hHeld ?_ ?_ ?_ ?_
    rotate_left
    · intro u hSw
      go_simp
      try with_reducible rfl
    · rfl
    · exact fun _ _ _ h => h
    try simp only [Act.put, List.setIfInBounds_toArray, List.set_cons_zero, List.set_cons_succ]
    refine held_take (i := 9) (fuel := 0) (v := ?_) (by rw [List.getElem?_toArray]; rfl) (by kernel_rfl) (by kernel_rfl) (by kernel_rfl) hHeld ?_ ?_ ?_ ?_
    rotate_left
    · intro u hSw
      go_simp
      try with_reducible rfl
    · rfl
    · exact fun _ _ _ h => h
    try simp only [Act.put, List.setIfInBounds_toArray, List.set_cons_zero, List.set_cons_succ]
    refine wpAnyH_done (by kernel_rfl) ?_ _
    have HF5 : Hid (Below w1.heap.size w1 w5) := Lib.hid hHeld
    clear hHeld
    obtain ⟨g0, g1, g2, g3, g4⟩ := hcg.out w5 HF5.out
    obtain ⟨e0, e1, e2, e3, e4, e5⟩ := hcs.out w5 HF5.out
    go_wp2_with fail
    refine (HYC.out w5 (HB1.out.trans (HF5.out.mono HB1.out.size))).mono ?_
    rintro f w6 ⟨rfl, hb6⟩
    have HF6 : Hid (Below w1.heap.size w1 w6) := Lib.hid (HF5.out.trans (hb6.mono HF5.out.size))
    clear hb6
    clear g0 g1 g2 g3 g4 e0 e1 e2 e3 e4 e5
    cases q2 with
    | false =>
      go_wp2_with fail
      go_ret
      exact ⟨rfl, HB1.out.trans (HF6.out.mono HB1.out.size)⟩
    | true =>
      obtain ⟨g0, g1, g2, g3, g4⟩ := hcg.out w6 HF6.out
      obtain ⟨e0, e1, e2, e3, e4, e5⟩ := hcs.out w6 HF6.out
      go_wp2_with fail
      refine (HARG.out w6 HF6.out).mono ?_
      rintro f w7 ⟨rfl, hb7⟩
      have HF7 : Hid (Below w1.heap.size w1 w7) := Lib.hid (HF6.out.trans (hb7.mono HF6.out.size))
      clear hb7
      clear g0 g1 g2 g3 g4 e0 e1 e2 e3 e4 e5
      cases q3 with
      | false =>
        go_wp2_with fail
        go_ret
        exact ⟨rfl, HB1.out.trans (HF7.out.mono HB1.out.size)⟩
      | true =>
        obtain ⟨g0, g1, g2, g3, g4⟩ := hcg.out w7 HF7.out
        obtain ⟨e0, e1, e2, e3, e4, e5⟩ := hcs.out w7 HF7.out
        by_cases h19 : xk = 19
        · have t19 : (xk == 19) = true := by rw [beq_iff_eq]; exact h19
          have hx1 := HN1.out (by first | rfl | trivial) h19
          have hx0 : 0 < xn := by omega
          have HB7 := Lib.hid (HB1.out.trans (HF7.out.mono HB1.out.size))
          obtain ⟨zad, hzA, zab, zc⟩ := row_at (HROW.out.below HB7.out) hx0
          obtain ⟨z, hze⟩ : ∃ z, z = xes[0]?.getD nilE := ⟨_, rfl⟩
          have z0 := (zc z hze).1
          obtain ⟨zk, hzk⟩ : ∃ zk, zk = z.kind := ⟨_, rfl⟩
          rw [← hzk, Nat.zero_mul, addr_zero] at z0
          have hz1 : (xes[0]?.getD nilE).kind = zk := by rw [← hze, hzk]
          have i0 : (0 : Int) < (xn : Int) := by omega
          subst hzA
          by_cases h9 : zk = cl
          · have t9 : (zk != cl) = false := by simpa using h9
            have hq4 : q4 = true := by rw [HQ4.out, hz1, decide_eq_true h9, Bool.or_true]
            subst hq4
            clear zc hze hzk hz1 hx0 hx1 h9 h19
            go_wp2_with fail
            go_quiet (fail)
            go_wp2_with fail
            refine (HBC.out _ (HB1.out.trans ((below_drewN HF7.out _).mono HB1.out.size))).mono ?_
            rintro f w8 ⟨rfl, hb8⟩
            have HF8 : Hid (Below w1.heap.size w1 w8) := Lib.hid ((below_drewN HF7.out _).trans (hb8.mono (below_drewN HF7.out _).size))
            clear hb8
            clear g0 g1 g2 g3 g4 e0 e1 e2 e3 e4 e5
            cases b1 with
            | false =>
              go_wp2_with fail
              go_ret
              exact ⟨rfl, HB1.out.trans (HF8.out.mono HB1.out.size)⟩
            | true =>
              obtain ⟨g0, g1, g2, g3, g4⟩ := hcg.out w8 HF8.out
              obtain ⟨e0, e1, e2, e3, e4, e5⟩ := hcs.out w8 HF8.out
              go_wp2_with fail
              refine (HEC.out _ (HB1.out.trans (HF8.out.mono HB1.out.size))).mono ?_
              rintro f w9 ⟨rfl, hb9⟩
              have HF9 : Hid (Below w1.heap.size w1 w9) := Lib.hid (HF8.out.trans (hb9.mono HF8.out.size))
              clear hb9
              clear g0 g1 g2 g3 g4 e0 e1 e2 e3 e4 e5
              go_wp2_with fail
              go_ret
              exact ⟨rfl, HB1.out.trans (HF9.out.mono HB1.out.size)⟩
          · have t9 : (zk != cl) = true := by rw [bne_iff_ne]; exact h9
            have hq4 : q4 = false := by rw [HQ4.out, hz1, decide_eq_false h9, decide_eq_false (by simpa using h19), Bool.or_false]
            subst hq4
            clear zc hze hzk hz1 hx0 hx1 h9 h19
            go_wp2_with fail
            go_quiet (fail)
            go_wp2_with fail
            go_ret
            exact ⟨rfl, HB1.out.trans ((below_drewN HF7.out _).mono HB1.out.size)⟩
        · have t19 : (xk == 19) = false := by rw [beq_eq_false_iff_ne]; exact h19
          have hq4 : q4 = true := by rw [HQ4.out, decide_eq_true (p := xk ≠ 19) h19, Bool.true_or]
          subst hq4
          clear h19
          go_wp2_with fail
          go_quiet (fail)
          go_wp2_with fail
          refine (HBC.out _ (HB1.out.trans ((below_drewN HF7.out _).mono HB1.out.size))).mono ?_
          rintro f w8 ⟨rfl, hb8⟩
          have HF8 : Hid (Below w1.heap.size w1 w8) := Lib.hid ((below_drewN HF7.out _).trans (hb8.mono (below_drewN HF7.out _).size))
          clear hb8
          clear g0 g1 g2 g3 g4 e0 e1 e2 e3 e4 e5
          cases b1 with
          | false =>
            go_wp2_with fail
            go_ret
            exact ⟨rfl, HB1.out.trans (HF8.out.mono HB1.out.size)⟩
          | true =>
            obtain ⟨g0, g1, g2, g3, g4⟩ := hcg.out w8 HF8.out
            obtain ⟨e0, e1, e2, e3, e4, e5⟩ := hcs.out w8 HF8.out
            go_wp2_with fail
            refine (HEC.out _ (HB1.out.trans (HF8.out.mono HB1.out.size))).mono ?_
            rintro f w9 ⟨rfl, hb9⟩
            have HF9 : Hid (Below w1.heap.size w1 w9) := Lib.hid (HF8.out.trans (hb9.mono HF8.out.size))
            clear hb9
            clear g0 g1 g2 g3 g4 e0 e1 e2 e3 e4 e5
            go_wp2_with fail
            go_ret
            exact ⟨rfl, HB1.out.trans (HF9.out.mono HB1.out.size)⟩

theorem tvalid_all (w0 : World) (G : LG) (X : EL → Bool) (Y : SL → Bool) (lb : SL → Int × List UInt8) (hok : LGok w0 G X Y lb) : ∀ d : Nat, (d : Int) ≤ 100000 → VBAt w0 G X Y lb d := by
  intro d
  induction d with
  | zero => intro _; exact tvalidBlock_zero w0 G X Y lb
  | succ d ih =>
    intro hd
    exact tvalidBlock_succ w0 G X Y lb d hd (tvalidStmt_of w0 G X Y lb hok d (by omega) (tvalidExpr_any w0 G X Y lb hok d (by omega)) (ih (by omega)))

end Go.Proofs.Ytdmpadonnobeaaa
