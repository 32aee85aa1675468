/- Contracts and lemmas that the proofs of this seat use. -/
import Derived.Test.YtiioffjjlcfhgaaFoldMayQ1
namespace Go.Proofs.Ytiioffjjlcfhgaa

section
open Go.RowKit
set_option linter.unusedVariables false

/-- what a language's three functions do, in each world that is as w0 was -/
structure LGok (w0 : World) (G : LG) (X : EL → Bool) (Y : SL → Bool) (lb : SL → Int × List UInt8) : Prop where
  eN : Enters G.kN
  eE : Enters G.kE
  eS : Enters G.kS
  hN : ∀ (s : SL) (W : World), Below w0.heap.size w0 W → s.In W W.heap.size → Calls Try.prog G.kN #[sVal s] W fun f w' => f = .returned (lbV (lb s).1 (lb s).2) ∧ Below W.heap.size W w'
  hE : ∀ (e : EL) (W : World), Below w0.heap.size w0 W → e.In W W.heap.size → Calls Try.prog G.kE (G.F ++ #[eVal e]) W fun f w' => f = .returned (.bool (X e)) ∧ Below W.heap.size W w'
  hS : ∀ (s : SL) (W : World), Below w0.heap.size w0 W → s.In W W.heap.size → Calls Try.prog G.kS (G.F ++ #[sVal s]) W fun f w' => f = .returned (.bool (Y s)) ∧ Below W.heap.size W w'

set_option maxRecDepth 100000 in
set_option maxHeartbeats 6400000 in
theorem tvalidExpr_any (w0 : World) (G : LG) (X : EL → Bool) (Y : SL → Bool) (lb : SL → Int × List UInt8) (hok : LGok w0 G X Y lb) : ∀ (d : Nat), (d : Int) ≤ 100000 → VEAt w0 G X d := by
  intro d
  induction d with
  | zero =>
    intro _ e w hw hin
    rw [show vE X G.tx 0 e = false from rfl]
    clear hok hw hin
    obtain ⟨tx, cl, kN, kE, kS, F⟩ := G
    obtain ⟨xk, xo, xm, xs, xA, xn, xc', xes⟩ := e
    show Calls Try.prog _ #[.agg #[.int .i64 tx, .int .i64 cl, .func (.func kN) #[] #[], .func (.func kE) F #[], .func (.func kS) F #[]], .agg #[.int .i64 xk, .int .i64 xo, .int .i64 xm, .string (bs xs), .slice xA xn xc'], .int .i64 0] w fun f w' => f = .returned (.bool false) ∧ Below w.heap.size w w'
    obtain ⟨W, hW⟩ : ∃ W, W = ((w.alloc (.cells #[.int .i64 tx, .int .i64 cl, .func (.func kN) #[] #[], .func (.func kE) F #[], .func (.func kS) F #[]] 71)).alloc (.cells #[.int .i64 xk, .int .i64 xo, .int .i64 xm, .string (bs xs), .slice xA xn xc'] 31)) := ⟨_, rfl⟩
    have HBW : Hid (Below w.heap.size w W) := Lib.hid (by rw [hW]; exact ((Below.refl _ _).alloc (Nat.le_refl _) _).alloc (by simp) _)
    have HG : Hid (Blk W w.heap.size 71 #[.int .i64 tx, .int .i64 cl, .func (.func kN) #[] #[], .func (.func kE) F #[], .func (.func kS) F #[]]) := Lib.hid (by rw [hW]; exact (Blk.new w _ _).alloc _)
    have HE : Hid (Blk W (w.heap.size + 1) 31 #[.int .i64 xk, .int .i64 xo, .int .i64 xm, .string (bs xs), .slice xA xn xc']) := Lib.hid (by rw [hW]; exact Blk.new_at _ _ _ _ (by simp))
    go_enter Try.func42, Try.ntmps42
    go_wp2_with fail
    rw [← hW]

    refine (targsCheck_any ⟨tx, cl, kN, kE, kS, F⟩ (-1) false W).mono ?_
    rintro f w1 ⟨bc, bg, bs', bd, rfl, hck, hb1⟩
    have HB1 : Hid (Below w.heap.size w w1) := Lib.hid (HBW.out.trans (hb1.mono HBW.out.size))
    have hcg : Hid (∀ u : World, Below w1.heap.size w1 u → u.cell? ⟨w.heap.size, 0, none⟩ = some (.int .i64 tx) ∧ u.cell? ⟨w.heap.size, 1, none⟩ = some (.int .i64 cl) ∧ u.cell? ⟨w.heap.size, 2, none⟩ = some (.func (.func kN) #[] #[]) ∧ u.cell? ⟨w.heap.size, 3, none⟩ = some (.func (.func kE) F #[]) ∧ u.cell? ⟨w.heap.size, 4, none⟩ = some (.func (.func kS) F #[])) := Lib.hid (fun u hb => by
      have hk : Blk w1 (w.heap.size) 71 #[.int .i64 tx, .int .i64 cl, .func (.func kN) #[] #[], .func (.func kE) F #[], .func (.func kS) F #[]] := (HG.out).below hb1 HG.out.lt
      have hk2 := hk.below hb hk.lt
      exact ⟨hk2.cell 0, hk2.cell 1, hk2.cell 2, hk2.cell 3, hk2.cell 4⟩)
    have hce : Hid (∀ u : World, Below w1.heap.size w1 u → u.cell? ⟨w.heap.size + 1, 0, none⟩ = some (.int .i64 xk) ∧ u.cell? ⟨w.heap.size + 1, 1, none⟩ = some (.int .i64 xo) ∧ u.cell? ⟨w.heap.size + 1, 2, none⟩ = some (.int .i64 xm) ∧ u.cell? ⟨w.heap.size + 1, 3, none⟩ = some (.string (bs xs)) ∧ u.cell? ⟨w.heap.size + 1, 4, none⟩ = some (.slice xA xn xc')) := Lib.hid (fun u hb => by
      have hk : Blk w1 (w.heap.size + 1) 31 #[.int .i64 xk, .int .i64 xo, .int .i64 xm, .string (bs xs), .slice xA xn xc'] := (HE.out).below hb1 HE.out.lt
      have hk2 := hk.below hb hk.lt
      exact ⟨hk2.cell 0, hk2.cell 1, hk2.cell 2, hk2.cell 3, hk2.cell 4⟩)
    have HCK := Lib.hid hck
    clear hb1 hck hW
    go_wp2_with fail
    refine wp_region_held_drew (S := Below w1.heap.size w1) (by kernel_rfl) (Below.refl _ _).drew (fun hHeld => ?_)
    refine held_take (i := 0) (fuel := 21) (v := ?_) (by rw [List.getElem?_toArray]; rfl) (by kernel_rfl) (by kernel_rfl) (by kernel_rfl) hHeld ?_ ?_ ?_ ?_
    rotate_left
    · intro u hSw
      go_simp
      try with_reducible rfl
    · rfl
    · exact fun _ _ _ h => h
    try simp only [Act.put, List.setIfInBounds_toArray, List.set_cons_zero, List.set_cons_succ]
    refine held_take (i := 1) (fuel := 20) (v := ?_) (by rw [List.getElem?_toArray]; rfl) (by kernel_rfl) (by kernel_rfl) (by kernel_rfl) hHeld ?_ ?_ ?_ ?_
    rotate_left
    · intro u hSw
      go_simp
      try with_reducible rfl
    · rfl
    · exact fun _ _ _ h => h
    try simp only [Act.put, List.setIfInBounds_toArray, List.set_cons_zero, List.set_cons_succ]
    refine held_take (i := 2) (fuel := 19) (v := ?_) (by rw [List.getElem?_toArray]; rfl) (by kernel_rfl) (by kernel_rfl) (by kernel_rfl) hHeld ?_ ?_ ?_ ?_
    rotate_left
    · intro u hSw
      go_simp
      try with_reducible rfl
    · rfl
    · exact fun _ _ _ h => h
    try simp only [Act.put, List.setIfInBounds_toArray, List.set_cons_zero, List.set_cons_succ]
    refine held_skip (i := 3) (fuel := 18) (by rw [List.getElem?_toArray]; rfl) (by kernel_rfl) (by kernel_rfl) (by kernel_rfl) hHeld ?_ ?_ ?_
    · rfl
    · exact fun _ _ _ h => h
    try simp only [Act.put, List.setIfInBounds_toArray, List.set_cons_zero, List.set_cons_succ]
    refine held_skip (i := 4) (fuel := 17) (by rw [List.getElem?_toArray]; rfl) (by kernel_rfl) (by kernel_rfl) (by kernel_rfl) hHeld ?_ ?_ ?_
    · rfl
    · exact fun _ _ _ h => h
    try simp only [Act.put, List.setIfInBounds_toArray, List.set_cons_zero, List.set_cons_succ]
    refine held_skip (i := 5) (fuel := 16) (by rw [List.getElem?_toArray]; rfl) (by kernel_rfl) (by kernel_rfl) (by kernel_rfl) hHeld ?_ ?_ ?_
    · rfl
    · exact fun _ _ _ h => h
    try simp only [Act.put, List.setIfInBounds_toArray, List.set_cons_zero, List.set_cons_succ]
    refine held_skip (i := 6) (fuel := 15) (by rw [List.getElem?_toArray]; rfl) (by kernel_rfl) (by kernel_rfl) (by kernel_rfl) hHeld ?_ ?_ ?_
    · rfl
    · exact fun _ _ _ h => h
    try simp only [Act.put, List.setIfInBounds_toArray, List.set_cons_zero, List.set_cons_succ]
    refine held_skip (i := 7) (fuel := 14) (by rw [List.getElem?_toArray]; rfl) (by kernel_rfl) (by kernel_rfl) (by kernel_rfl) hHeld ?_ ?_ ?_
    · rfl
    · exact fun _ _ _ h => h
    try simp only [Act.put, List.setIfInBounds_toArray, List.set_cons_zero, List.set_cons_succ]
    refine held_take (i := 8) (fuel := 13) (v := ?_) (by rw [List.getElem?_toArray]; rfl) (by kernel_rfl) (by kernel_rfl) (by kernel_rfl) hHeld ?_ ?_ ?_ ?_
    rotate_left
    · intro u hSw
      go_simp
      try with_reducible rfl
    · rfl
    · exact fun _ _ _ h => h
    try simp only [Act.put, List.setIfInBounds_toArray, List.set_cons_zero, List.set_cons_succ]
    refine held_take (i := 9) (fuel := 12) (v := ?_) (by rw [List.getElem?_toArray]; rfl) (by kernel_rfl) (by kernel_rfl) (by kernel_rfl) hHeld ?_ ?_ ?_ ?_
    rotate_left
    · intro u hSw
      go_simp
      try with_reducible rfl
    · rfl
    · exact fun _ _ _ h => h
    try simp only [Act.put, List.setIfInBounds_toArray, List.set_cons_zero, List.set_cons_succ]
    refine held_skip (i := 10) (fuel := 11) (by rw [List.getElem?_toArray]; rfl) (by kernel_rfl) (by kernel_rfl) (by kernel_rfl) hHeld ?_ ?_ ?_
    · rfl
    · exact fun _ _ _ h => h
    try simp only [Act.put, List.setIfInBounds_toArray, List.set_cons_zero, List.set_cons_succ]
    refine held_skip (i := 11) (fuel := 10) (by rw [List.getElem?_toArray]; rfl) (by kernel_rfl) (by kernel_rfl) (by kernel_rfl) hHeld ?_ ?_ ?_
    · rfl
    · exact fun _ _ _ h => h
    try simp only [Act.put, List.setIfInBounds_toArray, List.set_cons_zero, List.set_cons_succ]
    refine held_skip (i := 12) (fuel := 9) (by rw [List.getElem?_toArray]; rfl) (by kernel_rfl) (by kernel_rfl) (by kernel_rfl) hHeld ?_ ?_ ?_
    · rfl
    · exact fun _ _ _ h => h
    try simp only [Act.put, List.setIfInBounds_toArray, List.set_cons_zero, List.set_cons_succ]
    refine held_skip (i := 13) (fuel := 8) (by rw [List.getElem?_toArray]; rfl) (by kernel_rfl) (by kernel_rfl) (by kernel_rfl) hHeld ?_ ?_ ?_
    · rfl
    · exact fun _ _ _ h => h
    try simp only [Act.put, List.setIfInBounds_toArray, List.set_cons_zero, List.set_cons_succ]
    refine held_take (i := 14) (fuel := 7) (v := ?_) (by rw [List.getElem?_toArray]; rfl) (by kernel_rfl) (by kernel_rfl) (by kernel_rfl) hHeld ?_ ?_ ?_ ?_
    rotate_left
    · intro u hSw
      go_simp
      try with_reducible rfl
    · rfl
    · exact fun _ _ _ h => h
    try simp only [Act.put, List.setIfInBounds_toArray, List.set_cons_zero, List.set_cons_succ]
    refine held_take (i := 15) (fuel := 6) (v := ?_) (by rw [List.getElem?_toArray]; rfl) (by kernel_rfl) (by kernel_rfl) (by kernel_rfl) hHeld ?_ ?_ ?_ ?_
    rotate_left
    · intro u hSw
      go_simp
      try with_reducible rfl
    · rfl
    · exact fun _ _ _ h => h
    try simp only [Act.put, List.setIfInBounds_toArray, List.set_cons_zero, List.set_cons_succ]
    refine held_skip (i := 16) (fuel := 5) (by rw [List.getElem?_toArray]; rfl) (by kernel_rfl) (by kernel_rfl) (by kernel_rfl) hHeld ?_ ?_ ?_
    · rfl
    · exact fun _ _ _ h => h
    try simp only [Act.put, List.setIfInBounds_toArray, List.set_cons_zero, List.set_cons_succ]
    refine held_skip (i := 17) (fuel := 4) (by rw [List.getElem?_toArray]; rfl) (by kernel_rfl) (by kernel_rfl) (by kernel_rfl) hHeld ?_ ?_ ?_
    · rfl
    · exact fun _ _ _ h => h
    try simp only [Act.put, List.setIfInBounds_toArray, List.set_cons_zero, List.set_cons_succ]
    refine held_skip (i := 18) (fuel := 3) (by rw [List.getElem?_toArray]; rfl) (by kernel_rfl) (by kernel_rfl) (by kernel_rfl) hHeld ?_ ?_ ?_
    · rfl
    · exact fun _ _ _ h => h
    try simp only [Act.put, List.setIfInBounds_toArray, List.set_cons_zero, List.set_cons_succ]
    refine held_skip (i := 19) (fuel := 2) (by rw [List.getElem?_toArray]; rfl) (by kernel_rfl) (by kernel_rfl) (by kernel_rfl) hHeld ?_ ?_ ?_
    · rfl
    · exact fun _ _ _ h => h
    try simp only [Act.put, List.setIfInBounds_toArray, List.set_cons_zero, List.set_cons_succ]
    refine held_take (i := 20) (fuel := 1) (v := ?_) (by rw [List.getElem?_toArray]; rfl) (by kernel_rfl) (by kernel_rfl) (by kernel_rfl) hHeld ?_ ?_ ?_ ?_
    rotate_left
    · intro u hSw
      go_simp
      try with_reducible rfl
    · rfl
    · exact fun _ _ _ h => h
    try simp only [Act.put, List.setIfInBounds_toArray, List.set_cons_zero, List.set_cons_succ]
    refine held_take (i := 21) (fuel := 0) (v := ?_) (by rw [List.getElem?_toArray]; rfl) (by kernel_rfl) (by kernel_rfl) (by kernel_rfl) hHeld ?_ ?_ ?_ ?_
    rotate_left
    · intro u hSw
      go_simp
      try with_reducible rfl
    · rfl
    · exact fun _ _ _ h => h
    try simp only [Act.put, List.setIfInBounds_toArray, List.set_cons_zero, List.set_cons_succ]
    refine wpAnyH_done (by kernel_rfl) ?_ _
    have HF := Lib.hid (HB1.out.trans (hHeld.mono HB1.out.size))
    go_wp2_with fail
    go_ret
    exact ⟨rfl, HF.out⟩
  | succ d ih =>
    intro hd e w hw hin
    have hV := ih (by omega)
    rw [vE_succ]
    have hrow := hin.row
    have hargs := hin.args
    obtain ⟨ev, hev⟩ : ∃ v, v = eVal e := ⟨_, rfl⟩
    obtain ⟨v1, hv1⟩ : ∃ v, v = e.fv.val := ⟨_, rfl⟩
    obtain ⟨v2, hv2⟩ : ∃ v, v = e.form.val := ⟨_, rfl⟩
    obtain ⟨q1, hq1⟩ : ∃ q, q = decide (e.fv = e.form) := ⟨_, rfl⟩
    obtain ⟨q2, hq2⟩ : ∃ q, q = X e := ⟨_, rfl⟩
    obtain ⟨q3, hq3⟩ : ∃ q, q = e.args.all (inE X G.tx false d) := ⟨_, rfl⟩
    have heq : ∀ W : World, (binOp .eql 52 v1 v2).run Try.prog W = .ok (.bool q1) W := fun W => by rw [hv1, hv2, hq1]; exact run_eql_fv _ _ W
    have hgd : ∀ (a b : Operand) (W : World), (eqGuard .eql 52 a b v1 v2).run Try.prog W = .ok () W := fun a b W => by rw [hv1, hv2]; exact guard_fv _ _ _ _ _ W
    have hf1 : ∀ W : World, Calls Try.prog 24 #[ev] W fun f w' => f = .returned v1 ∧ Below W.heap.size W w' := fun W => by rw [hv1, hev]; exact texprFields_any e W
    have hf2 : ∀ W : World, Calls Try.prog 65 #[ev] W fun f w' => f = .returned v2 ∧ Below W.heap.size W w' := fun W => by rw [hv2, hev]; exact texprForm_any e W
    have hXC : ∀ W : World, Below w.heap.size w W → Calls Try.prog G.kE (G.F ++ #[ev]) W fun f w' => f = .returned (.bool q2) ∧ Below W.heap.size W w' := fun W hb => by rw [hev, hq2]; exact hok.hE e W (hw.trans (hb.mono hw.size)) (EL.In.more hb.size (hin.below hb))
    have hAC : ∀ (W : World) (bc bg bs' bd : Nat), Below w.heap.size w W → Ck W G (d : Int) false bc bg bs' bd → Calls Try.prog 85 #[.slice e.A e.n e.c, .pointer (some ⟨bc, 0, none⟩)] W fun f w' => f = .returned (.bool q3) ∧ Below W.heap.size W w' := fun W bc bg bs' bd hb hck => by
      rw [hq3]
      exact targs2_any w0 G X d hV false bc bg bs' bd e.args e.A e.n e.c W hck (hw.trans (hb.mono hw.size)) ((RowE.below hrow hb).more hb.size) ((EL.Ins.below hargs hb).more hb.size)
    have hkE := hok.eE.run
    rw [← hq1, ← hq2, ← hq3, ← hev]
    clear hok ih hV hw hin hrow hargs hq1 hq2 hq3 hv1 hv2
    obtain ⟨tx, cl, kN, kE, kS, F⟩ := G
    simp only at hXC hkE
    obtain ⟨xk, xo, xm, xs, xA, xn, xc', xes⟩ := e
    have hev2 : ev = .agg #[.int .i64 xk, .int .i64 xo, .int .i64 xm, .string (bs xs), .slice xA xn xc'] := hev
    clear hev
    subst hev2
    have HXC := Lib.hid hXC
    have HAC := Lib.hid hAC
    have HF1 := Lib.hid hf1
    have HF2 := Lib.hid hf2
    clear hXC hAC hf1 hf2
    obtain ⟨D, hD⟩ : ∃ D : Nat, D = d + 1 := ⟨_, rfl⟩
    rw [← hD]
    have hD0 : 0 < (D : Int) := by omega
    have wq : IntKind.i64.wrap ((D : Int) - 1) = (d : Int) := by rw [IntKind.wrap_i64]; omega
    have wq2 : wrap64 ((D : Int) - 1) = (d : Int) := by rw [IntWalk.wrap64_in _ (by omega)]; omega
    have hd2 : decide (0 < D) = true := by rw [decide_eq_true_eq]; omega
    clear hD hd
    show Calls Try.prog _ #[.agg #[.int .i64 tx, .int .i64 cl, .func (.func kN) #[] #[], .func (.func kE) F #[], .func (.func kS) F #[]], .agg #[.int .i64 xk, .int .i64 xo, .int .i64 xm, .string (bs xs), .slice xA xn xc'], .int .i64 (D : Int)] w fun f w' => f = .returned (.bool (q1 && q2 && q3)) ∧ Below w.heap.size w w'
    obtain ⟨W, hW⟩ : ∃ W, W = ((w.alloc (.cells #[.int .i64 tx, .int .i64 cl, .func (.func kN) #[] #[], .func (.func kE) F #[], .func (.func kS) F #[]] 71)).alloc (.cells #[.int .i64 xk, .int .i64 xo, .int .i64 xm, .string (bs xs), .slice xA xn xc'] 31)) := ⟨_, rfl⟩
    have HBW : Hid (Below w.heap.size w W) := Lib.hid (by rw [hW]; exact ((Below.refl _ _).alloc (Nat.le_refl _) _).alloc (by simp) _)
    have HG : Hid (Blk W w.heap.size 71 #[.int .i64 tx, .int .i64 cl, .func (.func kN) #[] #[], .func (.func kE) F #[], .func (.func kS) F #[]]) := Lib.hid (by rw [hW]; exact (Blk.new w _ _).alloc _)
    have HE : Hid (Blk W (w.heap.size + 1) 31 #[.int .i64 xk, .int .i64 xo, .int .i64 xm, .string (bs xs), .slice xA xn xc']) := Lib.hid (by rw [hW]; exact Blk.new_at _ _ _ _ (by simp))
    cases q1 with
    | false =>
      rw [Bool.false_and, Bool.false_and]
      go_enter Try.func42, Try.ntmps42
      go_wp2_with fail
      rw [← hW]
      clear wq wq2
      refine (targsCheck_any ⟨tx, cl, kN, kE, kS, F⟩ (d : Int) false W).mono ?_
      rintro f w1 ⟨bc, bg, bs', bd, rfl, hck, hb1⟩
      have HB1 : Hid (Below w.heap.size w w1) := Lib.hid (HBW.out.trans (hb1.mono HBW.out.size))
      have hcg : Hid (∀ u : World, Below w1.heap.size w1 u → u.cell? ⟨w.heap.size, 0, none⟩ = some (.int .i64 tx) ∧ u.cell? ⟨w.heap.size, 1, none⟩ = some (.int .i64 cl) ∧ u.cell? ⟨w.heap.size, 2, none⟩ = some (.func (.func kN) #[] #[]) ∧ u.cell? ⟨w.heap.size, 3, none⟩ = some (.func (.func kE) F #[]) ∧ u.cell? ⟨w.heap.size, 4, none⟩ = some (.func (.func kS) F #[])) := Lib.hid (fun u hb => by
        have hk : Blk w1 (w.heap.size) 71 #[.int .i64 tx, .int .i64 cl, .func (.func kN) #[] #[], .func (.func kE) F #[], .func (.func kS) F #[]] := (HG.out).below hb1 HG.out.lt
        have hk2 := hk.below hb hk.lt
        exact ⟨hk2.cell 0, hk2.cell 1, hk2.cell 2, hk2.cell 3, hk2.cell 4⟩)
      have hce : Hid (∀ u : World, Below w1.heap.size w1 u → u.cell? ⟨w.heap.size + 1, 0, none⟩ = some (.int .i64 xk) ∧ u.cell? ⟨w.heap.size + 1, 1, none⟩ = some (.int .i64 xo) ∧ u.cell? ⟨w.heap.size + 1, 2, none⟩ = some (.int .i64 xm) ∧ u.cell? ⟨w.heap.size + 1, 3, none⟩ = some (.string (bs xs)) ∧ u.cell? ⟨w.heap.size + 1, 4, none⟩ = some (.slice xA xn xc')) := Lib.hid (fun u hb => by
        have hk : Blk w1 (w.heap.size + 1) 31 #[.int .i64 xk, .int .i64 xo, .int .i64 xm, .string (bs xs), .slice xA xn xc'] := (HE.out).below hb1 HE.out.lt
        have hk2 := hk.below hb hk.lt
        exact ⟨hk2.cell 0, hk2.cell 1, hk2.cell 2, hk2.cell 3, hk2.cell 4⟩)
      have HCK := Lib.hid hck
      clear hb1 hck hW
      go_wp2_with fail
      refine wp_region_held_drew (S := Below w1.heap.size w1) (by kernel_rfl) (Below.refl _ _).drew (fun hHeld => ?_)
      refine held_take (i := 0) (fuel := 21) (v := ?_) (by rw [List.getElem?_toArray]; rfl) (by kernel_rfl) (by kernel_rfl) (by kernel_rfl) hHeld ?_ ?_ ?_ ?_
      rotate_left
      · intro u hSw
        go_simp
        try with_reducible rfl
      · rfl
      · exact fun _ _ _ h => h
      try simp only [Act.put, List.setIfInBounds_toArray, List.set_cons_zero, List.set_cons_succ]
      refine held_take (i := 1) (fuel := 20) (v := ?_) (by rw [List.getElem?_toArray]; rfl) (by kernel_rfl) (by kernel_rfl) (by kernel_rfl) hHeld ?_ ?_ ?_ ?_
      rotate_left
      · intro u hSw
        go_simp
        try with_reducible rfl
      · rfl
      · exact fun _ _ _ h => h
      try simp only [Act.put, List.setIfInBounds_toArray, List.set_cons_zero, List.set_cons_succ]
      refine held_take (i := 2) (fuel := 19) (v := ?_) (by rw [List.getElem?_toArray]; rfl) (by kernel_rfl) (by kernel_rfl) (by kernel_rfl) hHeld ?_ ?_ ?_ ?_
      rotate_left
      · intro u hSw
        go_simp
        try with_reducible rfl
      · rfl
      · exact fun _ _ _ h => h
      try simp only [Act.put, List.setIfInBounds_toArray, List.set_cons_zero, List.set_cons_succ]
      refine held_take (i := 3) (fuel := 18) (v := ?_) (by rw [List.getElem?_toArray]; rfl) (by kernel_rfl) (by kernel_rfl) (by kernel_rfl) hHeld ?_ ?_ ?_ ?_
      rotate_left
      · intro u hSw
        obtain ⟨c0, c1, c2, c3, c4⟩ := hce.out u hSw
        go_simp
        try with_reducible rfl
      · rfl
      · exact fun _ _ _ h => h
      try simp only [Act.put, List.setIfInBounds_toArray, List.set_cons_zero, List.set_cons_succ]
      refine held_take (i := 5) (fuel := 17) (v := ?_) (by rw [List.getElem?_toArray]; rfl) (by kernel_rfl) (by kernel_rfl) (by kernel_rfl) hHeld ?_ ?_ ?_ ?_
      rotate_left
      · intro u hSw
        obtain ⟨c0, c1, c2, c3, c4⟩ := hce.out u hSw
        go_simp
        try with_reducible rfl
      · rfl
      · exact fun _ _ _ h => h
      try simp only [Act.put, List.setIfInBounds_toArray, List.set_cons_zero, List.set_cons_succ]
      refine held_one (i := 4) (fuel := 16) (by kernel_rfl) (by rw [List.getElem?_toArray]; rfl) (fun K hK => ?_)
      go_simp
      refine (HF1.out _).mono ?_
      rintro f w3 ⟨rfl, hb3⟩
      refine hK.out _ _ ?_ (fun hHeld => ?_)
      · exact hHeld.trans (hb3.mono hHeld.size)
      clear hK K
      try simp only [Act.put, List.setIfInBounds_toArray, List.set_cons_zero, List.set_cons_succ]
      refine held_one (i := 6) (fuel := 15) (by kernel_rfl) (by rw [List.getElem?_toArray]; rfl) (fun K hK => ?_)
      go_simp
      refine (HF2.out _).mono ?_
      rintro f w4 ⟨rfl, hb4⟩
      refine hK.out _ _ ?_ (fun hHeld => ?_)
      · exact hHeld.trans (hb4.mono hHeld.size)
      clear hK K
      try simp only [Act.put, List.setIfInBounds_toArray, List.set_cons_zero, List.set_cons_succ]
      refine held_take (i := 7) (fuel := 14) (v := ?_) (by rw [List.getElem?_toArray]; rfl) (by kernel_rfl) (by kernel_rfl) (by kernel_rfl) hHeld ?_ ?_ ?_ ?_
      rotate_left
      · intro u hSw
        go_simp
        try with_reducible rfl
      · rfl
      · exact fun _ _ _ h => h
      try simp only [Act.put, List.setIfInBounds_toArray, List.set_cons_zero, List.set_cons_succ]
      refine held_take (i := 8) (fuel := 13) (v := ?_) (by rw [List.getElem?_toArray]; rfl) (by kernel_rfl) (by kernel_rfl) (by kernel_rfl) hHeld ?_ ?_ ?_ ?_
      rotate_left
      · intro u hSw
        go_simp
        try with_reducible rfl
      · rfl
      · exact fun _ _ _ h => h
      try simp only [Act.put, List.setIfInBounds_toArray, List.set_cons_zero, List.set_cons_succ]
      refine held_take (i := 9) (fuel := 12) (v := ?_) (by rw [List.getElem?_toArray]; rfl) (by kernel_rfl) (by kernel_rfl) (by kernel_rfl) hHeld ?_ ?_ ?_ ?_
      rotate_left
      · intro u hSw
        go_simp
        try with_reducible rfl
      · rfl
      · exact fun _ _ _ h => h
      try simp only [Act.put, List.setIfInBounds_toArray, List.set_cons_zero, List.set_cons_succ]
      refine held_skip (i := 10) (fuel := 11) (by rw [List.getElem?_toArray]; rfl) (by kernel_rfl) (by kernel_rfl) (by kernel_rfl) hHeld ?_ ?_ ?_
      · rfl
      · exact fun _ _ _ h => h
      try simp only [Act.put, List.setIfInBounds_toArray, List.set_cons_zero, List.set_cons_succ]
      refine held_skip (i := 11) (fuel := 10) (by rw [List.getElem?_toArray]; rfl) (by kernel_rfl) (by kernel_rfl) (by kernel_rfl) hHeld ?_ ?_ ?_
      · rfl
      · exact fun _ _ _ h => h
      try simp only [Act.put, List.setIfInBounds_toArray, List.set_cons_zero, List.set_cons_succ]
      refine held_skip (i := 12) (fuel := 9) (by rw [List.getElem?_toArray]; rfl) (by kernel_rfl) (by kernel_rfl) (by kernel_rfl) hHeld ?_ ?_ ?_
      · rfl
      · exact fun _ _ _ h => h
      try simp only [Act.put, List.setIfInBounds_toArray, List.set_cons_zero, List.set_cons_succ]
      refine held_skip (i := 13) (fuel := 8) (by rw [List.getElem?_toArray]; rfl) (by kernel_rfl) (by kernel_rfl) (by kernel_rfl) hHeld ?_ ?_ ?_
      · rfl
      · exact fun _ _ _ h => h
      try simp only [Act.put, List.setIfInBounds_toArray, List.set_cons_zero, List.set_cons_succ]
      refine held_take (i := 14) (fuel := 7) (v := ?_) (by rw [List.getElem?_toArray]; rfl) (by kernel_rfl) (by kernel_rfl) (by kernel_rfl) hHeld ?_ ?_ ?_ ?_
      rotate_left
      · intro u hSw
        go_simp
        try with_reducible rfl
      · rfl
      · exact fun _ _ _ h => h
      try simp only [Act.put, List.setIfInBounds_toArray, List.set_cons_zero, List.set_cons_succ]
      refine held_take (i := 15) (fuel := 6) (v := ?_) (by rw [List.getElem?_toArray]; rfl) (by kernel_rfl) (by kernel_rfl) (by kernel_rfl) hHeld ?_ ?_ ?_ ?_
      rotate_left
      · intro u hSw
        go_simp
        try with_reducible rfl
      · rfl
      · exact fun _ _ _ h => h
      try simp only [Act.put, List.setIfInBounds_toArray, List.set_cons_zero, List.set_cons_succ]
      refine held_skip (i := 16) (fuel := 5) (by rw [List.getElem?_toArray]; rfl) (by kernel_rfl) (by kernel_rfl) (by kernel_rfl) hHeld ?_ ?_ ?_
      · rfl
      · exact fun _ _ _ h => h
      try simp only [Act.put, List.setIfInBounds_toArray, List.set_cons_zero, List.set_cons_succ]
      refine held_skip (i := 17) (fuel := 4) (by rw [List.getElem?_toArray]; rfl) (by kernel_rfl) (by kernel_rfl) (by kernel_rfl) hHeld ?_ ?_ ?_
      · rfl
      · exact fun _ _ _ h => h
      try simp only [Act.put, List.setIfInBounds_toArray, List.set_cons_zero, List.set_cons_succ]
      refine held_skip (i := 18) (fuel := 3) (by rw [List.getElem?_toArray]; rfl) (by kernel_rfl) (by kernel_rfl) (by kernel_rfl) hHeld ?_ ?_ ?_
      · rfl
      · exact fun _ _ _ h => h
      try simp only [Act.put, List.setIfInBounds_toArray, List.set_cons_zero, List.set_cons_succ]
      refine held_skip (i := 19) (fuel := 2) (by rw [List.getElem?_toArray]; rfl) (by kernel_rfl) (by kernel_rfl) (by kernel_rfl) hHeld ?_ ?_ ?_
      · rfl
      · exact fun _ _ _ h => h
      try simp only [Act.put, List.setIfInBounds_toArray, List.set_cons_zero, List.set_cons_succ]
      refine held_take (i := 20) (fuel := 1) (v := ?_) (by rw [List.getElem?_toArray]; rfl) (by kernel_rfl) (by kernel_rfl) (by kernel_rfl) hHeld ?_ ?_ ?_ ?_
      rotate_left
      · intro u hSw
        go_simp
        try with_reducible rfl
      · rfl
      · exact fun _ _ _ h => h
      try simp only [Act.put, List.setIfInBounds_toArray, List.set_cons_zero, List.set_cons_succ]
      refine held_take (i := 21) (fuel := 0) (v := ?_) (by rw [List.getElem?_toArray]; rfl) (by kernel_rfl) (by kernel_rfl) (by kernel_rfl) hHeld ?_ ?_ ?_ ?_
      rotate_left
      · intro u hSw
        go_simp
        try with_reducible rfl
      · rfl
      · exact fun _ _ _ h => h
      try simp only [Act.put, List.setIfInBounds_toArray, List.set_cons_zero, List.set_cons_succ]
      refine wpAnyH_done (by kernel_rfl) ?_ _
      have HF := Lib.hid (HB1.out.trans (hHeld.mono HB1.out.size))
      go_wp2_with fail
      go_ret
      exact ⟨rfl, HF.out⟩
    | true =>
      rw [Bool.true_and]
      cases q2 with
      | false =>
        rw [Bool.false_and]
        go_enter Try.func42, Try.ntmps42
        go_wp2_with fail
        rw [← hW]
        clear wq wq2
        refine (targsCheck_any ⟨tx, cl, kN, kE, kS, F⟩ (d : Int) false W).mono ?_
        rintro f w1 ⟨bc, bg, bs', bd, rfl, hck, hb1⟩
        have HB1 : Hid (Below w.heap.size w w1) := Lib.hid (HBW.out.trans (hb1.mono HBW.out.size))
        have hcg : Hid (∀ u : World, Below w1.heap.size w1 u → u.cell? ⟨w.heap.size, 0, none⟩ = some (.int .i64 tx) ∧ u.cell? ⟨w.heap.size, 1, none⟩ = some (.int .i64 cl) ∧ u.cell? ⟨w.heap.size, 2, none⟩ = some (.func (.func kN) #[] #[]) ∧ u.cell? ⟨w.heap.size, 3, none⟩ = some (.func (.func kE) F #[]) ∧ u.cell? ⟨w.heap.size, 4, none⟩ = some (.func (.func kS) F #[])) := Lib.hid (fun u hb => by
          have hk : Blk w1 (w.heap.size) 71 #[.int .i64 tx, .int .i64 cl, .func (.func kN) #[] #[], .func (.func kE) F #[], .func (.func kS) F #[]] := (HG.out).below hb1 HG.out.lt
          have hk2 := hk.below hb hk.lt
          exact ⟨hk2.cell 0, hk2.cell 1, hk2.cell 2, hk2.cell 3, hk2.cell 4⟩)
        have hce : Hid (∀ u : World, Below w1.heap.size w1 u → u.cell? ⟨w.heap.size + 1, 0, none⟩ = some (.int .i64 xk) ∧ u.cell? ⟨w.heap.size + 1, 1, none⟩ = some (.int .i64 xo) ∧ u.cell? ⟨w.heap.size + 1, 2, none⟩ = some (.int .i64 xm) ∧ u.cell? ⟨w.heap.size + 1, 3, none⟩ = some (.string (bs xs)) ∧ u.cell? ⟨w.heap.size + 1, 4, none⟩ = some (.slice xA xn xc')) := Lib.hid (fun u hb => by
          have hk : Blk w1 (w.heap.size + 1) 31 #[.int .i64 xk, .int .i64 xo, .int .i64 xm, .string (bs xs), .slice xA xn xc'] := (HE.out).below hb1 HE.out.lt
          have hk2 := hk.below hb hk.lt
          exact ⟨hk2.cell 0, hk2.cell 1, hk2.cell 2, hk2.cell 3, hk2.cell 4⟩)
        have HCK := Lib.hid hck
        clear hb1 hck hW
        go_wp2_with fail
        refine wp_region_held_drew (S := Below w1.heap.size w1) (by kernel_rfl) (Below.refl _ _).drew (fun hHeld => ?_)
        refine held_take (i := 0) (fuel := 21) (v := ?_) (by rw [List.getElem?_toArray]; rfl) (by kernel_rfl) (by kernel_rfl) (by kernel_rfl) hHeld ?_ ?_ ?_ ?_
        rotate_left
        · intro u hSw
          go_simp
          try with_reducible rfl
        · rfl
        · exact fun _ _ _ h => h
        try simp only [Act.put, List.setIfInBounds_toArray, List.set_cons_zero, List.set_cons_succ]
        refine held_take (i := 1) (fuel := 20) (v := ?_) (by rw [List.getElem?_toArray]; rfl) (by kernel_rfl) (by kernel_rfl) (by kernel_rfl) hHeld ?_ ?_ ?_ ?_
        rotate_left
        · intro u hSw
          go_simp
          try with_reducible rfl
        · rfl
        · exact fun _ _ _ h => h
        try simp only [Act.put, List.setIfInBounds_toArray, List.set_cons_zero, List.set_cons_succ]
        refine held_take (i := 2) (fuel := 19) (v := ?_) (by rw [List.getElem?_toArray]; rfl) (by kernel_rfl) (by kernel_rfl) (by kernel_rfl) hHeld ?_ ?_ ?_ ?_
        rotate_left
        · intro u hSw
          go_simp
          try with_reducible rfl
        · rfl
        · exact fun _ _ _ h => h
        try simp only [Act.put, List.setIfInBounds_toArray, List.set_cons_zero, List.set_cons_succ]
        refine held_take (i := 3) (fuel := 18) (v := ?_) (by rw [List.getElem?_toArray]; rfl) (by kernel_rfl) (by kernel_rfl) (by kernel_rfl) hHeld ?_ ?_ ?_ ?_
        rotate_left
        · intro u hSw
          obtain ⟨c0, c1, c2, c3, c4⟩ := hce.out u hSw
          go_simp
          try with_reducible rfl
        · rfl
        · exact fun _ _ _ h => h
        try simp only [Act.put, List.setIfInBounds_toArray, List.set_cons_zero, List.set_cons_succ]
        refine held_take (i := 5) (fuel := 17) (v := ?_) (by rw [List.getElem?_toArray]; rfl) (by kernel_rfl) (by kernel_rfl) (by kernel_rfl) hHeld ?_ ?_ ?_ ?_
        rotate_left
        · intro u hSw
          obtain ⟨c0, c1, c2, c3, c4⟩ := hce.out u hSw
          go_simp
          try with_reducible rfl
        · rfl
        · exact fun _ _ _ h => h
        try simp only [Act.put, List.setIfInBounds_toArray, List.set_cons_zero, List.set_cons_succ]
        refine held_one (i := 4) (fuel := 16) (by kernel_rfl) (by rw [List.getElem?_toArray]; rfl) (fun K hK => ?_)
        go_simp
        refine (HF1.out _).mono ?_
        rintro f w3 ⟨rfl, hb3⟩
        refine hK.out _ _ ?_ (fun hHeld => ?_)
        · exact hHeld.trans (hb3.mono hHeld.size)
        clear hK K
        try simp only [Act.put, List.setIfInBounds_toArray, List.set_cons_zero, List.set_cons_succ]
        refine held_one (i := 6) (fuel := 15) (by kernel_rfl) (by rw [List.getElem?_toArray]; rfl) (fun K hK => ?_)
        go_simp
        refine (HF2.out _).mono ?_
        rintro f w4 ⟨rfl, hb4⟩
        refine hK.out _ _ ?_ (fun hHeld => ?_)
        · exact hHeld.trans (hb4.mono hHeld.size)
        clear hK K
        try simp only [Act.put, List.setIfInBounds_toArray, List.set_cons_zero, List.set_cons_succ]
        refine held_take (i := 7) (fuel := 14) (v := ?_) (by rw [List.getElem?_toArray]; rfl) (by kernel_rfl) (by kernel_rfl) (by kernel_rfl) hHeld ?_ ?_ ?_ ?_
        rotate_left
        · intro u hSw
          go_simp
          try with_reducible rfl
        · rfl
        · exact fun _ _ _ h => h
        try simp only [Act.put, List.setIfInBounds_toArray, List.set_cons_zero, List.set_cons_succ]
        refine held_take (i := 8) (fuel := 13) (v := ?_) (by rw [List.getElem?_toArray]; rfl) (by kernel_rfl) (by kernel_rfl) (by kernel_rfl) hHeld ?_ ?_ ?_ ?_
        rotate_left
        · intro u hSw
          go_simp
          try with_reducible rfl
        · rfl
        · exact fun _ _ _ h => h
        try simp only [Act.put, List.setIfInBounds_toArray, List.set_cons_zero, List.set_cons_succ]
        refine held_take (i := 9) (fuel := 12) (v := ?_) (by rw [List.getElem?_toArray]; rfl) (by kernel_rfl) (by kernel_rfl) (by kernel_rfl) hHeld ?_ ?_ ?_ ?_
        rotate_left
        · intro u hSw
          go_simp
          try with_reducible rfl
        · rfl
        · exact fun _ _ _ h => h
        try simp only [Act.put, List.setIfInBounds_toArray, List.set_cons_zero, List.set_cons_succ]
        refine held_take (i := 10) (fuel := 11) (v := ?_) (by rw [List.getElem?_toArray]; rfl) (by kernel_rfl) (by kernel_rfl) (by kernel_rfl) hHeld ?_ ?_ ?_ ?_
        rotate_left
        · intro u hSw
          go_simp
          try with_reducible rfl
        · rfl
        · exact fun _ _ _ h => h
        try simp only [Act.put, List.setIfInBounds_toArray, List.set_cons_zero, List.set_cons_succ]
        refine held_take (i := 11) (fuel := 10) (v := ?_) (by rw [List.getElem?_toArray]; rfl) (by kernel_rfl) (by kernel_rfl) (by kernel_rfl) hHeld ?_ ?_ ?_ ?_
        rotate_left
        · intro u hSw
          obtain ⟨c0, c1, c2, c3, c4⟩ := hcg.out u hSw
          go_simp
          try with_reducible rfl
        · rfl
        · exact fun _ _ _ h => h
        try simp only [Act.put, List.setIfInBounds_toArray, List.set_cons_zero, List.set_cons_succ]
        refine held_take (i := 12) (fuel := 9) (v := ?_) (by rw [List.getElem?_toArray]; rfl) (by kernel_rfl) (by kernel_rfl) (by kernel_rfl) hHeld ?_ ?_ ?_ ?_
        rotate_left
        · intro u hSw
          obtain ⟨c0, c1, c2, c3, c4⟩ := hce.out u hSw
          go_simp
          try with_reducible rfl
        · rfl
        · exact fun _ _ _ h => h
        try simp only [Act.put, List.setIfInBounds_toArray, List.set_cons_zero, List.set_cons_succ]
        refine held_one (i := 13) (fuel := 8) (by kernel_rfl) (by rw [List.getElem?_toArray]; rfl) (fun K hK => ?_)
        go_simp
        refine (HXC.out _ (HB1.out.trans (hHeld.mono HB1.out.size))).mono ?_
        rintro f w5 ⟨rfl, hb5⟩
        refine hK.out _ _ ?_ (fun hHeld => ?_)
        · exact hHeld.trans (hb5.mono hHeld.size)
        clear hK K
        try simp only [Act.put, List.setIfInBounds_toArray, List.set_cons_zero, List.set_cons_succ]
        refine held_take (i := 14) (fuel := 7) (v := ?_) (by rw [List.getElem?_toArray]; rfl) (by kernel_rfl) (by kernel_rfl) (by kernel_rfl) hHeld ?_ ?_ ?_ ?_
        rotate_left
        · intro u hSw
          go_simp
          try with_reducible rfl
        · rfl
        · exact fun _ _ _ h => h
        try simp only [Act.put, List.setIfInBounds_toArray, List.set_cons_zero, List.set_cons_succ]
        refine held_take (i := 15) (fuel := 6) (v := ?_) (by rw [List.getElem?_toArray]; rfl) (by kernel_rfl) (by kernel_rfl) (by kernel_rfl) hHeld ?_ ?_ ?_ ?_
        rotate_left
        · intro u hSw
          go_simp
          try with_reducible rfl
        · rfl
        · exact fun _ _ _ h => h
        try simp only [Act.put, List.setIfInBounds_toArray, List.set_cons_zero, List.set_cons_succ]
        refine held_skip (i := 16) (fuel := 5) (by rw [List.getElem?_toArray]; rfl) (by kernel_rfl) (by kernel_rfl) (by kernel_rfl) hHeld ?_ ?_ ?_
        · rfl
        · exact fun _ _ _ h => h
        try simp only [Act.put, List.setIfInBounds_toArray, List.set_cons_zero, List.set_cons_succ]
        refine held_skip (i := 17) (fuel := 4) (by rw [List.getElem?_toArray]; rfl) (by kernel_rfl) (by kernel_rfl) (by kernel_rfl) hHeld ?_ ?_ ?_
        · rfl
        · exact fun _ _ _ h => h
        try simp only [Act.put, List.setIfInBounds_toArray, List.set_cons_zero, List.set_cons_succ]
        refine held_skip (i := 18) (fuel := 3) (by rw [List.getElem?_toArray]; rfl) (by kernel_rfl) (by kernel_rfl) (by kernel_rfl) hHeld ?_ ?_ ?_
        · rfl
        · exact fun _ _ _ h => h
        try simp only [Act.put, List.setIfInBounds_toArray, List.set_cons_zero, List.set_cons_succ]
        refine held_skip (i := 19) (fuel := 2) (by rw [List.getElem?_toArray]; rfl) (by kernel_rfl) (by kernel_rfl) (by kernel_rfl) hHeld ?_ ?_ ?_
        · rfl
        · exact fun _ _ _ h => h
        try simp only [Act.put, List.setIfInBounds_toArray, List.set_cons_zero, List.set_cons_succ]
        refine held_take (i := 20) (fuel := 1) (v := ?_) (by rw [List.getElem?_toArray]; rfl) (by kernel_rfl) (by kernel_rfl) (by kernel_rfl) hHeld ?_ ?_ ?_ ?_
        rotate_left
        · intro u hSw
          go_simp
          try with_reducible rfl
        · rfl
        · exact fun _ _ _ h => h
        try simp only [Act.put, List.setIfInBounds_toArray, List.set_cons_zero, List.set_cons_succ]
        refine held_take (i := 21) (fuel := 0) (v := ?_) (by rw [List.getElem?_toArray]; rfl) (by kernel_rfl) (by kernel_rfl) (by kernel_rfl) hHeld ?_ ?_ ?_ ?_
        rotate_left
        · intro u hSw
          go_simp
          try with_reducible rfl
        · rfl
        · exact fun _ _ _ h => h
        try simp only [Act.put, List.setIfInBounds_toArray, List.set_cons_zero, List.set_cons_succ]
        refine wpAnyH_done (by kernel_rfl) ?_ _
        have HF := Lib.hid (HB1.out.trans (hHeld.mono HB1.out.size))
        go_wp2_with fail
        go_ret
        exact ⟨rfl, HF.out⟩
      | true =>
        rw [Bool.true_and]
        go_enter Try.func42, Try.ntmps42
        go_wp2_with fail
        rw [← hW]
        clear wq wq2
        refine (targsCheck_any ⟨tx, cl, kN, kE, kS, F⟩ (d : Int) false W).mono ?_
        rintro f w1 ⟨bc, bg, bs', bd, rfl, hck, hb1⟩
        have HB1 : Hid (Below w.heap.size w w1) := Lib.hid (HBW.out.trans (hb1.mono HBW.out.size))
        have hcg : Hid (∀ u : World, Below w1.heap.size w1 u → u.cell? ⟨w.heap.size, 0, none⟩ = some (.int .i64 tx) ∧ u.cell? ⟨w.heap.size, 1, none⟩ = some (.int .i64 cl) ∧ u.cell? ⟨w.heap.size, 2, none⟩ = some (.func (.func kN) #[] #[]) ∧ u.cell? ⟨w.heap.size, 3, none⟩ = some (.func (.func kE) F #[]) ∧ u.cell? ⟨w.heap.size, 4, none⟩ = some (.func (.func kS) F #[])) := Lib.hid (fun u hb => by
          have hk : Blk w1 (w.heap.size) 71 #[.int .i64 tx, .int .i64 cl, .func (.func kN) #[] #[], .func (.func kE) F #[], .func (.func kS) F #[]] := (HG.out).below hb1 HG.out.lt
          have hk2 := hk.below hb hk.lt
          exact ⟨hk2.cell 0, hk2.cell 1, hk2.cell 2, hk2.cell 3, hk2.cell 4⟩)
        have hce : Hid (∀ u : World, Below w1.heap.size w1 u → u.cell? ⟨w.heap.size + 1, 0, none⟩ = some (.int .i64 xk) ∧ u.cell? ⟨w.heap.size + 1, 1, none⟩ = some (.int .i64 xo) ∧ u.cell? ⟨w.heap.size + 1, 2, none⟩ = some (.int .i64 xm) ∧ u.cell? ⟨w.heap.size + 1, 3, none⟩ = some (.string (bs xs)) ∧ u.cell? ⟨w.heap.size + 1, 4, none⟩ = some (.slice xA xn xc')) := Lib.hid (fun u hb => by
          have hk : Blk w1 (w.heap.size + 1) 31 #[.int .i64 xk, .int .i64 xo, .int .i64 xm, .string (bs xs), .slice xA xn xc'] := (HE.out).below hb1 HE.out.lt
          have hk2 := hk.below hb hk.lt
          exact ⟨hk2.cell 0, hk2.cell 1, hk2.cell 2, hk2.cell 3, hk2.cell 4⟩)
        have HCK := Lib.hid hck
        clear hb1 hck hW
        go_wp2_with fail
        have HARG : Hid (∀ u : World, Below w1.heap.size w1 u → Calls Try.prog 85 #[.slice xA xn xc', .pointer (some ⟨bc, 0, none⟩)] u fun f w' => f = .returned (.bool q3) ∧ Below u.heap.size u w') := Lib.hid (fun u hb => HAC.out u bc bg bs' bd (HB1.out.trans (hb.mono HB1.out.size)) (HCK.out.below hb))
        refine wp_region_held_drew (S := Below w1.heap.size w1) (by kernel_rfl) (Below.refl _ _).drew (fun hHeld => ?_)
        refine held_take (i := 0) (fuel := 21) (v := ?_) (by rw [List.getElem?_toArray]; rfl) (by kernel_rfl) (by kernel_rfl) (by kernel_rfl) hHeld ?_ ?_ ?_ ?_
        rotate_left
        · intro u hSw
          go_simp
          try with_reducible rfl
        · rfl
        · exact fun _ _ _ h => h
        try simp only [Act.put, List.setIfInBounds_toArray, List.set_cons_zero, List.set_cons_succ]
        refine held_take (i := 1) (fuel := 20) (v := ?_) (by rw [List.getElem?_toArray]; rfl) (by kernel_rfl) (by kernel_rfl) (by kernel_rfl) hHeld ?_ ?_ ?_ ?_
        rotate_left
        · intro u hSw
          go_simp
          try with_reducible rfl
        · rfl
        · exact fun _ _ _ h => h
        try simp only [Act.put, List.setIfInBounds_toArray, List.set_cons_zero, List.set_cons_succ]
        refine held_take (i := 2) (fuel := 19) (v := ?_) (by rw [List.getElem?_toArray]; rfl) (by kernel_rfl) (by kernel_rfl) (by kernel_rfl) hHeld ?_ ?_ ?_ ?_
        rotate_left
        · intro u hSw
          go_simp
          try with_reducible rfl
        · rfl
        · exact fun _ _ _ h => h
        try simp only [Act.put, List.setIfInBounds_toArray, List.set_cons_zero, List.set_cons_succ]
        refine held_take (i := 3) (fuel := 18) (v := ?_) (by rw [List.getElem?_toArray]; rfl) (by kernel_rfl) (by kernel_rfl) (by kernel_rfl) hHeld ?_ ?_ ?_ ?_
        rotate_left
        · intro u hSw
          obtain ⟨c0, c1, c2, c3, c4⟩ := hce.out u hSw
          go_simp
          try with_reducible rfl
        · rfl
        · exact fun _ _ _ h => h
        try simp only [Act.put, List.setIfInBounds_toArray, List.set_cons_zero, List.set_cons_succ]
        refine held_take (i := 5) (fuel := 17) (v := ?_) (by rw [List.getElem?_toArray]; rfl) (by kernel_rfl) (by kernel_rfl) (by kernel_rfl) hHeld ?_ ?_ ?_ ?_
        rotate_left
        · intro u hSw
          obtain ⟨c0, c1, c2, c3, c4⟩ := hce.out u hSw
          go_simp
          try with_reducible rfl
        · rfl
        · exact fun _ _ _ h => h
        try simp only [Act.put, List.setIfInBounds_toArray, List.set_cons_zero, List.set_cons_succ]
        refine held_one (i := 4) (fuel := 16) (by kernel_rfl) (by rw [List.getElem?_toArray]; rfl) (fun K hK => ?_)
        go_simp
        refine (HF1.out _).mono ?_
        rintro f w3 ⟨rfl, hb3⟩
        refine hK.out _ _ ?_ (fun hHeld => ?_)
        · exact hHeld.trans (hb3.mono hHeld.size)
        clear hK K
        try simp only [Act.put, List.setIfInBounds_toArray, List.set_cons_zero, List.set_cons_succ]
        refine held_one (i := 6) (fuel := 15) (by kernel_rfl) (by rw [List.getElem?_toArray]; rfl) (fun K hK => ?_)
        go_simp
        refine (HF2.out _).mono ?_
        rintro f w4 ⟨rfl, hb4⟩
        refine hK.out _ _ ?_ (fun hHeld => ?_)
        · exact hHeld.trans (hb4.mono hHeld.size)
        clear hK K
        try simp only [Act.put, List.setIfInBounds_toArray, List.set_cons_zero, List.set_cons_succ]
        refine held_take (i := 7) (fuel := 14) (v := ?_) (by rw [List.getElem?_toArray]; rfl) (by kernel_rfl) (by kernel_rfl) (by kernel_rfl) hHeld ?_ ?_ ?_ ?_
        rotate_left
        · intro u hSw
          go_simp
          try with_reducible rfl
        · rfl
        · exact fun _ _ _ h => h
        try simp only [Act.put, List.setIfInBounds_toArray, List.set_cons_zero, List.set_cons_succ]
        refine held_take (i := 8) (fuel := 13) (v := ?_) (by rw [List.getElem?_toArray]; rfl) (by kernel_rfl) (by kernel_rfl) (by kernel_rfl) hHeld ?_ ?_ ?_ ?_
        rotate_left
        · intro u hSw
          go_simp
          try with_reducible rfl
        · rfl
        · exact fun _ _ _ h => h
        try simp only [Act.put, List.setIfInBounds_toArray, List.set_cons_zero, List.set_cons_succ]
        refine held_take (i := 9) (fuel := 12) (v := ?_) (by rw [List.getElem?_toArray]; rfl) (by kernel_rfl) (by kernel_rfl) (by kernel_rfl) hHeld ?_ ?_ ?_ ?_
        rotate_left
        · intro u hSw
          go_simp
          try with_reducible rfl
        · rfl
        · exact fun _ _ _ h => h
        try simp only [Act.put, List.setIfInBounds_toArray, List.set_cons_zero, List.set_cons_succ]
        refine held_take (i := 10) (fuel := 11) (v := ?_) (by rw [List.getElem?_toArray]; rfl) (by kernel_rfl) (by kernel_rfl) (by kernel_rfl) hHeld ?_ ?_ ?_ ?_
        rotate_left
        · intro u hSw
          go_simp
          try with_reducible rfl
        · rfl
        · exact fun _ _ _ h => h
        try simp only [Act.put, List.setIfInBounds_toArray, List.set_cons_zero, List.set_cons_succ]
        refine held_take (i := 11) (fuel := 10) (v := ?_) (by rw [List.getElem?_toArray]; rfl) (by kernel_rfl) (by kernel_rfl) (by kernel_rfl) hHeld ?_ ?_ ?_ ?_
        rotate_left
        · intro u hSw
          obtain ⟨c0, c1, c2, c3, c4⟩ := hcg.out u hSw
          go_simp
          try with_reducible rfl
        · rfl
        · exact fun _ _ _ h => h
        try simp only [Act.put, List.setIfInBounds_toArray, List.set_cons_zero, List.set_cons_succ]
        refine held_take (i := 12) (fuel := 9) (v := ?_) (by rw [List.getElem?_toArray]; rfl) (by kernel_rfl) (by kernel_rfl) (by kernel_rfl) hHeld ?_ ?_ ?_ ?_
        rotate_left
        · intro u hSw
          obtain ⟨c0, c1, c2, c3, c4⟩ := hce.out u hSw
          go_simp
          try with_reducible rfl
        · rfl
        · exact fun _ _ _ h => h
        try simp only [Act.put, List.setIfInBounds_toArray, List.set_cons_zero, List.set_cons_succ]
        refine held_one (i := 13) (fuel := 8) (by kernel_rfl) (by rw [List.getElem?_toArray]; rfl) (fun K hK => ?_)
        go_simp
        refine (HXC.out _ (HB1.out.trans (hHeld.mono HB1.out.size))).mono ?_
        rintro f w5 ⟨rfl, hb5⟩
        refine hK.out _ _ ?_ (fun hHeld => ?_)
        · exact hHeld.trans (hb5.mono hHeld.size)
        clear hK K
        try simp only [Act.put, List.setIfInBounds_toArray, List.set_cons_zero, List.set_cons_succ]
        refine held_take (i := 14) (fuel := 7) (v := ?_) (by rw [List.getElem?_toArray]; rfl) (by kernel_rfl) (by kernel_rfl) (by kernel_rfl) hHeld ?_ ?_ ?_ ?_
        rotate_left
        · intro u hSw
          go_simp
          try with_reducible rfl
        · rfl
        · exact fun _ _ _ h => h
        try simp only [Act.put, List.setIfInBounds_toArray, List.set_cons_zero, List.set_cons_succ]
        refine held_take (i := 15) (fuel := 6) (v := ?_) (by rw [List.getElem?_toArray]; rfl) (by kernel_rfl) (by kernel_rfl) (by kernel_rfl) hHeld ?_ ?_ ?_ ?_
        rotate_left
        · intro u hSw
          go_simp
          try with_reducible rfl
        · rfl
        · exact fun _ _ _ h => h
        try simp only [Act.put, List.setIfInBounds_toArray, List.set_cons_zero, List.set_cons_succ]
        refine held_take (i := 16) (fuel := 5) (v := ?_) (by rw [List.getElem?_toArray]; rfl) (by kernel_rfl) (by kernel_rfl) (by kernel_rfl) hHeld ?_ ?_ ?_ ?_
        rotate_left
        · intro u hSw
          go_simp
          try with_reducible rfl
        · rfl
        · exact fun _ _ _ h => h
        try simp only [Act.put, List.setIfInBounds_toArray, List.set_cons_zero, List.set_cons_succ]
        refine held_take (i := 17) (fuel := 4) (v := ?_) (by rw [List.getElem?_toArray]; rfl) (by kernel_rfl) (by kernel_rfl) (by kernel_rfl) hHeld ?_ ?_ ?_ ?_
        rotate_left
        · intro u hSw
          go_simp
          try with_reducible rfl
        · rfl
        · exact fun _ _ _ h => h
        try simp only [Act.put, List.setIfInBounds_toArray, List.set_cons_zero, List.set_cons_succ]
        refine held_take (i := 18) (fuel := 3) (v := ?_) (by rw [List.getElem?_toArray]; rfl) (by kernel_rfl) (by kernel_rfl) (by kernel_rfl) hHeld ?_ ?_ ?_ ?_
        rotate_left
        · intro u hSw
          obtain ⟨c0, c1, c2, c3, c4⟩ := hce.out u hSw
          go_simp
          try with_reducible rfl
        · rfl
        · exact fun _ _ _ h => h
        try simp only [Act.put, List.setIfInBounds_toArray, List.set_cons_zero, List.set_cons_succ]
        refine held_one (i := 19) (fuel := 2) (by kernel_rfl) (by rw [List.getElem?_toArray]; rfl) (fun K hK => ?_)
        go_simp
        refine (HARG.out _ hHeld).mono ?_
        rintro f w6 ⟨rfl, hb6⟩
        refine hK.out _ _ ?_ (fun hHeld => ?_)
        · exact hHeld.trans (hb6.mono hHeld.size)
        clear hK K
        try simp only [Act.put, List.setIfInBounds_toArray, List.set_cons_zero, List.set_cons_succ]
        refine held_take (i := 20) (fuel := 1) (v := ?_) (by rw [List.getElem?_toArray]; rfl) (by kernel_rfl) (by kernel_rfl) (by kernel_rfl) hHeld ?_ ?_ ?_ ?_
        rotate_left
        · intro u hSw
          go_simp
          try with_reducible rfl
        · rfl
        · exact fun _ _ _ h => h
        try simp only [Act.put, List.setIfInBounds_toArray, List.set_cons_zero, List.set_cons_succ]
        refine held_take (i := 21) (fuel := 0) (v := ?_) (by rw [List.getElem?_toArray]; rfl) (by kernel_rfl) (by kernel_rfl) (by kernel_rfl) hHeld ?_ ?_ ?_ ?_
        rotate_left
        · intro u hSw
          go_simp
          try with_reducible rfl
        · rfl
        · exact fun _ _ _ h => h
        try simp only [Act.put, List.setIfInBounds_toArray, List.set_cons_zero, List.set_cons_succ]
        refine wpAnyH_done (by kernel_rfl) ?_ _
        have HF := Lib.hid (HB1.out.trans (hHeld.mono HB1.out.size))
        go_wp2_with fail
        go_ret
        exact ⟨rfl, HF.out⟩

section
variable (X : EL → Bool) (Y : SL → Bool) (lb : SL → Int × List UInt8) (tx cl : Int)
/-- may a statement be, but for its lists of statements -/
def hdS (d : Nat) (s : SL) : Bool := decide (s.fv = s.form (lb s).1 (lb s).2) && Y s && s.args.all (inE X tx (decide (s.kind = 1)) d) && (decide (s.kind ≠ 19) || decide ((s.args[0]?.getD nilE).kind = cl))
/-- may a statement be, its lists of that depth at most -/
def vS : Nat → SL → Bool
  | 0, s => hdS X Y lb tx cl 0 s && s.body.isEmpty && s.els.isEmpty
  | d + 1, s => hdS X Y lb tx cl (d + 1) s && (s.body.isEmpty || (decide (s.body.length ≤ 256) && s.body.all (vS d))) && (s.els.isEmpty || (decide (s.els.length ≤ 256) && s.els.all (vS d)))
/-- may a list of statements be, of that depth at most -/
def vB : Nat → List SL → Bool
  | 0, l => l.isEmpty
  | d + 1, l => l.isEmpty || (decide (l.length ≤ 256) && l.all (vS X Y lb tx cl d))
end
theorem vS_eq (X : EL → Bool) (Y : SL → Bool) (lb : SL → Int × List UInt8) (tx cl : Int) (d : Nat) (s : SL) : vS X Y lb tx cl d s = (hdS X Y lb tx cl d s && vB X Y lb tx cl d s.body && vB X Y lb tx cl d s.els) := by
  cases d <;> rfl

/-- what validStmt, validBlock do at a depth -/
def VSAt (w0 : World) (G : LG) (X : EL → Bool) (Y : SL → Bool) (lb : SL → Int × List UInt8) (d : Nat) : Prop := ∀ (s : SL) (w : World), Below w0.heap.size w0 w → s.In w w.heap.size →
  Calls Try.prog 67 #[G.val, sVal s, .int .i64 (d : Int)] w fun f w' => f = .returned (.bool (vS X Y lb G.tx G.cl d s)) ∧ Below w.heap.size w w'
def VBAt (w0 : World) (G : LG) (X : EL → Bool) (Y : SL → Bool) (lb : SL → Int × List UInt8) (d : Nat) : Prop := ∀ (ss : List SL) (A : Option Addr) (n c : Nat) (w : World), Below w0.heap.size w0 w → RowS6 w w.heap.size A n ss → SL.Ins w w.heap.size ss →
  Calls Try.prog 43 #[G.val, .slice A n c, .int .i64 (d : Int)] w fun f w' => f = .returned (.bool (vB X Y lb G.tx G.cl d ss)) ∧ Below w.heap.size w w'

theorem entersB1 : Enters 66 := ⟨_, Try.func66, by kernel_rfl, by kernel_rfl⟩

set_option maxRecDepth 100000 in
set_option maxHeartbeats 6400000 in
theorem tblock1_any (w0 : World) (G : LG) (X : EL → Bool) (Y : SL → Bool) (lb : SL → Int × List UInt8) (d D : Nat) (hD : D = d + 1) (hd : (D : Int) ≤ 100000) (hV : VSAt w0 G X Y lb d) (bg bd : Nat) (s : SL) (w : World) (hg : Blk w bg 71 G.cells) (hb : Blk w bd 3 #[.int .i64 (D : Int)]) (hw : Below w0.heap.size w0 w) (hin : s.In w w.heap.size) :
    Calls Try.prog 66 #[sVal s, .pointer (some ⟨bg, 0, none⟩), .pointer (some ⟨bd, 0, none⟩)] w fun f w' => f = .returned (.bool (!vS X Y lb G.tx G.cl d s)) ∧ Below w.heap.size w w' := by
  obtain ⟨q, hq⟩ : ∃ q, q = vS X Y lb G.tx G.cl d s := ⟨_, rfl⟩
  have HC := Lib.hid (fun (W : World) (hb : Below w.heap.size w W) => hV s W (hw.trans (hb.mono hw.size)) (SL.In.more hb.size (hin.below hb)))
  rw [← hq]
  simp only [← hq] at HC
  obtain ⟨tx, cl, kN, kE, kS, F⟩ := G
  have c0 : ∀ o : Obj, (w.alloc o).cell? ⟨bg, 0, none⟩ = some (.int .i64 tx) := fun o => (hg.alloc o).cell 0
  have c1 : ∀ o : Obj, (w.alloc o).cell? ⟨bg, 1, none⟩ = some (.int .i64 cl) := fun o => (hg.alloc o).cell 1
  have c2 : ∀ o : Obj, (w.alloc o).cell? ⟨bg, 2, none⟩ = some (.func (.func kN) #[] #[]) := fun o => (hg.alloc o).cell 2
  have c3 : ∀ o : Obj, (w.alloc o).cell? ⟨bg, 3, none⟩ = some (.func (.func kE) F #[]) := fun o => (hg.alloc o).cell 3
  have c4 : ∀ o : Obj, (w.alloc o).cell? ⟨bg, 4, none⟩ = some (.func (.func kS) F #[]) := fun o => (hg.alloc o).cell 4
  have c5 : ∀ o : Obj, (w.alloc o).cell? ⟨bd, 0, none⟩ = some (.int .i64 (D : Int)) := fun o => (hb.alloc o).cell 0
  have wq : IntKind.i64.wrap ((D : Int) - 1) = (d : Int) := by rw [IntKind.wrap_i64]; omega
  have wq2 : wrap64 ((D : Int) - 1) = (d : Int) := by rw [IntWalk.wrap64_in _ (by omega)]; omega
  clear hq hg hb hw hin hV hd hD
  obtain ⟨xk, xm, xs, xA, xn, xc', xes, xA1, xn1, xc1, xbo, xA2, xn2, xc2, xel⟩ := s
  show Calls Try.prog _ #[.agg #[.int .i64 xk, .int .i64 xm, .string (bs xs), .slice xA xn xc', .slice xA1 xn1 xc1, .slice xA2 xn2 xc2], .pointer (some ⟨bg, 0, none⟩), .pointer (some ⟨bd, 0, none⟩)] w fun f w' => f = .returned (.bool (!q)) ∧ Below w.heap.size w w'
  obtain ⟨W, hW⟩ : ∃ W, W = w.alloc (.cells #[.int .i64 xk, .int .i64 xm, .string (bs xs), .slice xA xn xc', .slice xA1 xn1 xc1, .slice xA2 xn2 xc2] 48) := ⟨_, rfl⟩
  have HBW : Hid (Below w.heap.size w W) := Lib.hid (by rw [hW]; exact (Below.refl _ _).alloc (Nat.le_refl _) _)
  go_enter Try.func66, Try.ntmps66
  go_wp2_with fail
  rw [← hW]
  clear hW wq wq2
  refine (HC.out W HBW.out).mono ?_
  rintro f w2 ⟨rfl, hb2⟩
  go_wp2_with fail
  go_ret
  exact ⟨rfl, HBW.out.trans (hb2.mono HBW.out.size)⟩

set_option maxRecDepth 100000 in
set_option maxHeartbeats 6400000 in
theorem tvalidBlock_zero (w0 : World) (G : LG) (X : EL → Bool) (Y : SL → Bool) (lb : SL → Int × List UInt8) : VBAt w0 G X Y lb 0 := by
  intro ss A n c w hw hA hAi
  have hmf : ∀ (fn : Fn) (first cap : Array Value) (w : World), (Instr.makeFunc fn first cap).run Try.prog w = .ok (.func fn first cap) w := fun _ _ _ _ => rfl
  have hn := hA.1
  have hn9 := hA.2.1
  show Calls Try.prog _ #[G.val, .slice A n c, .int .i64 0] w fun f w' => f = .returned (.bool ss.isEmpty) ∧ Below w.heap.size w w'
  obtain ⟨gc, hgc⟩ : ∃ gc, gc = G.cells := ⟨_, rfl⟩
  unfold LG.val
  rw [← hgc]
  clear hw hA hAi hgc
  cases ss with
  | nil =>
    obtain rfl : 0 = n := hn
    go_enter Try.func43, Try.ntmps43
    go_wp2_with fail
    go_ret
    exact ⟨rfl, ((Below.refl _ _).alloc (Nat.le_refl _) _).alloc (by simp) _⟩
  | cons x r =>
    have t0 : ((n : Int) == 0) = false := by rw [beq_eq_false_iff_ne]; rw [List.length_cons] at hn; omega
    clear hn
    go_enter Try.func43, Try.ntmps43
    go_wp2_with fail
    go_ret
    exact ⟨rfl, ((Below.refl _ _).alloc (Nat.le_refl _) _).alloc (by simp) _⟩

set_option maxRecDepth 100000 in
set_option maxHeartbeats 6400000 in
theorem tvalidBlock_succ (w0 : World) (G : LG) (X : EL → Bool) (Y : SL → Bool) (lb : SL → Int × List UInt8) (d : Nat) (hd : ((d + 1 : Nat) : Int) ≤ 100000) (hV : VSAt w0 G X Y lb d) : VBAt w0 G X Y lb (d + 1) := by
  intro ss A n c w hw hA hAi
  have hmf : ∀ (fn : Fn) (first cap : Array Value) (w : World), (Instr.makeFunc fn first cap).run Try.prog w = .ok (.func fn first cap) w := fun _ _ _ _ => rfl
  have hn := hA.1
  have hn9 := hA.2.1
  obtain ⟨D, hD⟩ : ∃ D : Nat, D = d + 1 := ⟨_, rfl⟩
  obtain ⟨gc, hgc⟩ : ∃ gc, gc = G.cells := ⟨_, rfl⟩
  obtain ⟨q, hq⟩ : ∃ q, q = ss.any (fun s => !vS X Y lb G.tx G.cl d s) := ⟨_, rfl⟩
  have hres : vB X Y lb G.tx G.cl (d + 1) ss = (ss.isEmpty || (decide (ss.length ≤ 256) && !q)) := by
    have e : ss.all (vS X Y lb G.tx G.cl d) = !q := by
      rw [hq, List.any_eq_not_all_not, Bool.not_not]
      congr 1
      funext x
      rw [Bool.not_not]
    rw [← e]
    rfl
  rw [hres, ← hD]
  have HC : Hid (∀ W : World, Below w.heap.size w W → Blk W w.heap.size 71 gc → Blk W (w.heap.size + 1) 3 #[.int .i64 (D : Int)] → Calls Try.prog 68 #[.slice A n c, .func (.func 66) #[] #[.pointer (some ⟨w.heap.size, 0, none⟩), .pointer (some ⟨w.heap.size + 1, 0, none⟩)]] W fun f w' => f = .returned (.bool q) ∧ Below W.heap.size W w') := Lib.hid (fun W hb hg hd2 => by
    rw [hq]
    exact tContainsS_any (fun s => !vS X Y lb G.tx G.cl d s) _ #[.pointer (some ⟨w.heap.size, 0, none⟩), .pointer (some ⟨w.heap.size + 1, 0, none⟩)] entersB1 ss A n c W W (Below.refl _ _)
      (Lib.hid (fun U hbU x _ hx => tblock1_any w0 G X Y lb d D hD (by rw [hD]; exact hd) hV _ _ x U (by rw [← hgc]; exact hg.below hbU hg.lt) (hd2.below hbU hd2.lt) ((hw.trans (hb.mono hw.size)).trans (hbU.mono (hw.trans (hb.mono hw.size)).size)) hx))
      ((RowS6.below hA hb).more hb.size) ((SL.Ins.below hAi hb).more hb.size))
  have hD0 : 0 < (D : Int) := by omega
  have hd2 : decide (0 < D) = true := by rw [decide_eq_true_eq]; omega
  unfold LG.val
  rw [← hgc]
  clear hw hA hAi hgc hq hres hV hd hD
  by_cases h0 : ss = []
  · subst h0
    obtain rfl : 0 = n := hn
    go_enter Try.func43, Try.ntmps43
    go_wp2_with fail
    go_ret
    exact ⟨rfl, ((Below.refl _ _).alloc (Nat.le_refl _) _).alloc (by simp) _⟩
  · have hln : ss.length ≠ 0 := fun h => h0 (List.eq_nil_of_length_eq_zero h)
    have t0 : ((n : Int) == 0) = false := by rw [beq_eq_false_iff_ne]; omega
    have hem : ss.isEmpty = false := by cases ss with | nil => exact absurd rfl h0 | cons _ _ => rfl
    by_cases h256 : n ≤ 256
    · have HR : Hid ((ss.isEmpty || (decide (ss.length ≤ 256) && !q)) = !q) := Lib.hid (by rw [hem, Bool.false_or, decide_eq_true (by omega), Bool.true_and])
      have t1 : decide (n ≤ 256) = true := by rw [decide_eq_true_eq]; exact h256
      have t2 : (n : Int) ≤ 256 := by omega
      rw [HR.out]
      clear hn h0 hln hem h256
      go_enter Try.func43, Try.ntmps43
      go_wp2_with fail
      refine (HC.out _ (((Below.refl _ _).alloc (Nat.le_refl _) _).alloc (by simp) _) ((Blk.new w _ _).alloc _) (Blk.new_at _ _ _ _ (by simp))).mono ?_
      rintro f w2 ⟨rfl, hb2⟩
      have HBF : Hid (Below w.heap.size w w2) := Lib.hid ((((Below.refl _ _).alloc (Nat.le_refl _) _).alloc (by simp) _).trans (hb2.mono (by simp; omega)))
      clear hb2
      go_wp2_with fail
      go_ret
      exact ⟨rfl, HBF.out⟩
    · have HR : Hid ((ss.isEmpty || (decide (ss.length ≤ 256) && !q)) = false) := Lib.hid (by rw [hem, Bool.false_or, decide_eq_false (by omega), Bool.false_and])
      have t1 : decide ((n : Int) ≤ 256) = false := by rw [decide_eq_false_iff_not]; omega
      rw [HR.out]
      clear hn h0 hln hem h256
      go_enter Try.func43, Try.ntmps43
      go_wp2_with fail
      go_ret
      exact ⟨rfl, ((Below.refl _ _).alloc (Nat.le_refl _) _).alloc (by simp) _⟩

theorem form19 {s : SL} {lm : Int} {ls : List UInt8} (h : s.fv = s.form lm ls) (hk : s.kind = 19) : s.n = 1 := by
  have e : s.fv.args = (s.form lm ls).args := by rw [h]
  unfold SL.form at e
  simp [hk] at e
  unfold SL.fv at e
  simp at e
  omega

set_option maxRecDepth 100000 in
set_option maxHeartbeats 6400000 in
theorem tvalidStmt_of (w0 : World) (G : LG) (X : EL → Bool) (Y : SL → Bool) (lb : SL → Int × List UInt8) (hok : LGok w0 G X Y lb) (d : Nat) (hd : (d : Int) ≤ 100000) (hV : VEAt w0 G X d) (hB : VBAt w0 G X Y lb d) : VSAt w0 G X Y lb d := by
  intro s w hw hin
  rw [vS_eq]
  obtain ⟨hp, hi1, hi2⟩ := hin.parts
  have hrow := hp.2.2.1.1
  have hargs := hp.2.2.1.2
  have hr1 := hp.2.2.2.1
  have hr2 := hp.2.2.2.2
  obtain ⟨sv, hsv⟩ : ∃ v, v = sVal s := ⟨_, rfl⟩
  obtain ⟨lv, hlv⟩ : ∃ v, v = lbV (lb s).1 (lb s).2 := ⟨_, rfl⟩
  obtain ⟨v1, hv1⟩ : ∃ v, v = s.fv.val := ⟨_, rfl⟩
  obtain ⟨v2, hv2⟩ : ∃ v, v = (s.form (lb s).1 (lb s).2).val := ⟨_, rfl⟩
  obtain ⟨q1, hq1⟩ : ∃ q, q = decide (s.fv = s.form (lb s).1 (lb s).2) := ⟨_, rfl⟩
  obtain ⟨q2, hq2⟩ : ∃ q, q = Y s := ⟨_, rfl⟩
  obtain ⟨sd, hsd⟩ : ∃ q, q = decide (s.kind = 1) := ⟨_, rfl⟩
  obtain ⟨q3, hq3⟩ : ∃ q, q = s.args.all (inE X G.tx sd d) := ⟨_, rfl⟩
  obtain ⟨q4, hq4⟩ : ∃ q, q = (decide (s.kind ≠ 19) || decide ((s.args[0]?.getD nilE).kind = G.cl)) := ⟨_, rfl⟩
  obtain ⟨b1, hb1⟩ : ∃ q, q = vB X Y lb G.tx G.cl d s.body := ⟨_, rfl⟩
  obtain ⟨b2, hb2⟩ : ∃ q, q = vB X Y lb G.tx G.cl d s.els := ⟨_, rfl⟩
  have hres : hdS X Y lb G.tx G.cl d s = (q1 && q2 && q3 && q4) := by rw [hq1, hq2, hq3, hq4, hsd]; rfl
  have hn1 : q1 = true → s.kind = 19 → s.n = 1 := fun h hk => form19 (of_decide_eq_true (hq1.symm.trans h)) hk
  have heq : ∀ W : World, (binOp .neq 52 v1 v2).run Try.prog W = .ok (.bool (!q1)) W := fun W => by rw [hv1, hv2, hq1]; exact run_neq_fv _ _ W
  have hgd : ∀ (a b : Operand) (W : World), (eqGuard .neq 52 a b v1 v2).run Try.prog W = .ok () W := fun a b W => by rw [hv1, hv2]; exact guard_fv _ _ _ _ _ W
  have hf1 : ∀ W : World, Calls Try.prog 59 #[sv] W fun f w' => f = .returned v1 ∧ Below W.heap.size W w' := fun W => by rw [hv1, hsv]; exact tstmtFields_any s W
  have hf2 : ∀ W : World, Calls Try.prog 88 #[sv, lv] W fun f w' => f = .returned v2 ∧ Below W.heap.size W w' := fun W => by rw [hv2, hsv, hlv]; exact tstmtForm_any s _ _ W
  have hNC : ∀ W : World, Below w.heap.size w W → Calls Try.prog G.kN #[sv] W fun f w' => f = .returned lv ∧ Below W.heap.size W w' := fun W hb => by rw [hsv, hlv]; exact hok.hN s W (hw.trans (hb.mono hw.size)) (SL.In.more hb.size (hin.below hb))
  have hYC : ∀ W : World, Below w.heap.size w W → Calls Try.prog G.kS (G.F ++ #[sv]) W fun f w' => f = .returned (.bool q2) ∧ Below W.heap.size W w' := fun W hb => by rw [hsv, hq2]; exact hok.hS s W (hw.trans (hb.mono hw.size)) (SL.In.more hb.size (hin.below hb))
  have hAC : ∀ (W : World) (bc bg bs' bd : Nat), Below w.heap.size w W → Ck W G (d : Int) sd bc bg bs' bd → Calls Try.prog 85 #[.slice s.A s.n s.c, .pointer (some ⟨bc, 0, none⟩)] W fun f w' => f = .returned (.bool q3) ∧ Below W.heap.size W w' := fun W bc bg bs' bd hb hck => by
    rw [hq3]
    exact targs2_any w0 G X d hV sd bc bg bs' bd s.args s.A s.n s.c W hck (hw.trans (hb.mono hw.size)) ((RowE.below hrow hb).more hb.size) ((EL.Ins.below hargs hb).more hb.size)
  have hBC : ∀ W : World, Below w.heap.size w W → Calls Try.prog 43 #[G.val, .slice s.A1 s.n1 s.c1, .int .i64 (d : Int)] W fun f w' => f = .returned (.bool b1) ∧ Below W.heap.size W w' := fun W hb => by
    rw [hb1]
    exact hB s.body s.A1 s.n1 s.c1 W (hw.trans (hb.mono hw.size)) ((RowS6.below hr1 hb).more hb.size) ((SL.Ins.below hi1 hb).more hb.size)
  have hEC : ∀ W : World, Below w.heap.size w W → Calls Try.prog 43 #[G.val, .slice s.A2 s.n2 s.c2, .int .i64 (d : Int)] W fun f w' => f = .returned (.bool b2) ∧ Below W.heap.size W w' := fun W hb => by
    rw [hb2]
    exact hB s.els s.A2 s.n2 s.c2 W (hw.trans (hb.mono hw.size)) ((RowS6.below hr2 hb).more hb.size) ((SL.Ins.below hi2 hb).more hb.size)
  have hkN := hok.eN.run
  have hkS := hok.eS.run
  rw [hres, ← hb1, ← hb2, ← hsv]
  clear hok hV hB hw hin hargs hr1 hr2 hi1 hi2 hp hq1 hq2 hq3 hv1 hv2 hlv hb1 hb2 hres hd
  obtain ⟨tx, cl, kN, kE, kS, F⟩ := G
  simp only at hYC hkS hNC hkN hq4
  obtain ⟨xk, xm, xs, xA, xn, xc', xes, xA1, xn1, xc1, xbo, xA2, xn2, xc2, xel⟩ := s
  have hsv2 : sv = .agg #[.int .i64 xk, .int .i64 xm, .string (bs xs), .slice xA xn xc', .slice xA1 xn1 xc1, .slice xA2 xn2 xc2] := hsv
  have hsd2 : (xk == 1) = sd := by
    rw [hsd]
    show (xk == 1) = decide (xk = 1)
    rw [beqX]
  clear hsv hsd
  subst hsv2
  change RowE w w.heap.size xA xn xes at hrow
  change q1 = true → xk = 19 → xn = 1 at hn1
  change q4 = (decide (xk ≠ 19) || decide ((xes[0]?.getD nilE).kind = cl)) at hq4
  have HYC := Lib.hid hYC
  have HNC := Lib.hid hNC
  have HAC := Lib.hid hAC
  have HBC := Lib.hid hBC
  have HEC := Lib.hid hEC
  have HF1 := Lib.hid hf1
  have HF2 := Lib.hid hf2
  have HROW := Lib.hid hrow
  have HN1 := Lib.hid hn1
  have HQ4 := Lib.hid hq4
  clear hYC hNC hAC hBC hEC hf1 hf2 hrow hn1 hq4
  show Calls Try.prog _ #[.agg #[.int .i64 tx, .int .i64 cl, .func (.func kN) #[] #[], .func (.func kE) F #[], .func (.func kS) F #[]], .agg #[.int .i64 xk, .int .i64 xm, .string (bs xs), .slice xA xn xc', .slice xA1 xn1 xc1, .slice xA2 xn2 xc2], .int .i64 (d : Int)] w fun f w' => f = .returned (.bool ((q1 && q2 && q3 && q4) && b1 && b2)) ∧ Below w.heap.size w w'
  obtain ⟨W, hW⟩ : ∃ W, W = ((w.alloc (.cells #[.int .i64 tx, .int .i64 cl, .func (.func kN) #[] #[], .func (.func kE) F #[], .func (.func kS) F #[]] 71)).alloc (.cells #[.int .i64 xk, .int .i64 xm, .string (bs xs), .slice xA xn xc', .slice xA1 xn1 xc1, .slice xA2 xn2 xc2] 48)) := ⟨_, rfl⟩
  have HBW : Hid (Below w.heap.size w W) := Lib.hid (by rw [hW]; exact ((Below.refl _ _).alloc (Nat.le_refl _) _).alloc (by simp) _)
  have HG : Hid (Blk W w.heap.size 71 #[.int .i64 tx, .int .i64 cl, .func (.func kN) #[] #[], .func (.func kE) F #[], .func (.func kS) F #[]]) := Lib.hid (by rw [hW]; exact (Blk.new w _ _).alloc _)
  have HS : Hid (Blk W (w.heap.size + 1) 48 #[.int .i64 xk, .int .i64 xm, .string (bs xs), .slice xA xn xc', .slice xA1 xn1 xc1, .slice xA2 xn2 xc2]) := Lib.hid (by rw [hW]; exact Blk.new_at _ _ _ _ (by simp))
  cases q1 with
  | false =>
    go_enter Try.func67, Try.ntmps67
    go_wp2_with fail
    rw [← hW]
    refine (targsCheck_any ⟨tx, cl, kN, kE, kS, F⟩ (d : Int) sd W).mono ?_
    rintro f w1 ⟨bc, bg, bs', bd, rfl, hck, hb1⟩
    have HB1 : Hid (Below w.heap.size w w1) := Lib.hid (HBW.out.trans (hb1.mono HBW.out.size))
    have hcg : Hid (∀ u : World, Below w1.heap.size w1 u → u.cell? ⟨w.heap.size, 0, none⟩ = some (.int .i64 tx) ∧ u.cell? ⟨w.heap.size, 1, none⟩ = some (.int .i64 cl) ∧ u.cell? ⟨w.heap.size, 2, none⟩ = some (.func (.func kN) #[] #[]) ∧ u.cell? ⟨w.heap.size, 3, none⟩ = some (.func (.func kE) F #[]) ∧ u.cell? ⟨w.heap.size, 4, none⟩ = some (.func (.func kS) F #[])) := Lib.hid (fun u hb => by
      have hk : Blk w1 (w.heap.size) 71 #[.int .i64 tx, .int .i64 cl, .func (.func kN) #[] #[], .func (.func kE) F #[], .func (.func kS) F #[]] := (HG.out).below hb1 HG.out.lt
      have hk2 := hk.below hb hk.lt
      exact ⟨hk2.cell 0, hk2.cell 1, hk2.cell 2, hk2.cell 3, hk2.cell 4⟩)
    have hcs : Hid (∀ u : World, Below w1.heap.size w1 u → u.cell? ⟨w.heap.size + 1, 0, none⟩ = some (.int .i64 xk) ∧ u.cell? ⟨w.heap.size + 1, 1, none⟩ = some (.int .i64 xm) ∧ u.cell? ⟨w.heap.size + 1, 2, none⟩ = some (.string (bs xs)) ∧ u.cell? ⟨w.heap.size + 1, 3, none⟩ = some (.slice xA xn xc') ∧ u.cell? ⟨w.heap.size + 1, 4, none⟩ = some (.slice xA1 xn1 xc1) ∧ u.cell? ⟨w.heap.size + 1, 5, none⟩ = some (.slice xA2 xn2 xc2)) := Lib.hid (fun u hb => by
      have hk : Blk w1 (w.heap.size + 1) 48 #[.int .i64 xk, .int .i64 xm, .string (bs xs), .slice xA xn xc', .slice xA1 xn1 xc1, .slice xA2 xn2 xc2] := (HS.out).below hb1 HS.out.lt
      have hk2 := hk.below hb hk.lt
      exact ⟨hk2.cell 0, hk2.cell 1, hk2.cell 2, hk2.cell 3, hk2.cell 4, hk2.cell 5⟩)
    have HCK := Lib.hid hck
    clear hb1 hck hW
    have HARG : Hid (∀ u : World, Below w1.heap.size w1 u → Calls Try.prog 85 #[.slice xA xn xc', .pointer (some ⟨bc, 0, none⟩)] u fun f w' => f = .returned (.bool q3) ∧ Below u.heap.size u w') := Lib.hid (fun u hb => HAC.out u bc bg bs' bd (HB1.out.trans (hb.mono HB1.out.size)) (HCK.out.below hb))
    go_wp2_with fail
    refine wp_region_held_drew (S := Below w1.heap.size w1) (by kernel_rfl) (Below.refl _ _).drew (fun hHeld => ?_)
    refine held_take (i := 0) (fuel := 9) (v := ?_) (by rw [List.getElem?_toArray]; rfl) (by kernel_rfl) (by kernel_rfl) (by kernel_rfl) hHeld ?_ ?_ ?_ ?_
    rotate_left
    · intro u hSw
      obtain ⟨c0, c1, c2, c3, c4, c5⟩ := hcs.out u hSw
      go_simp
      try with_reducible rfl
    · rfl
    · exact fun _ _ _ h => h
    try simp only [Act.put, List.setIfInBounds_toArray, List.set_cons_zero, List.set_cons_succ]
    refine held_take (i := 2) (fuel := 8) (v := ?_) (by rw [List.getElem?_toArray]; rfl) (by kernel_rfl) (by kernel_rfl) (by kernel_rfl) hHeld ?_ ?_ ?_ ?_
    rotate_left
    · intro u hSw
      obtain ⟨c0, c1, c2, c3, c4, c5⟩ := hcs.out u hSw
      go_simp
      try with_reducible rfl
    · rfl
    · exact fun _ _ _ h => h
    try simp only [Act.put, List.setIfInBounds_toArray, List.set_cons_zero, List.set_cons_succ]
    refine held_take (i := 3) (fuel := 7) (v := ?_) (by rw [List.getElem?_toArray]; rfl) (by kernel_rfl) (by kernel_rfl) (by kernel_rfl) hHeld ?_ ?_ ?_ ?_
    rotate_left
    · intro u hSw
      go_simp
      try with_reducible rfl
    · rfl
    · exact fun _ _ _ h => h
    try simp only [Act.put, List.setIfInBounds_toArray, List.set_cons_zero, List.set_cons_succ]
    refine held_take (i := 4) (fuel := 6) (v := ?_) (by rw [List.getElem?_toArray]; rfl) (by kernel_rfl) (by kernel_rfl) (by kernel_rfl) hHeld ?_ ?_ ?_ ?_
    rotate_left
    · intro u hSw
      obtain ⟨c0, c1, c2, c3, c4⟩ := hcg.out u hSw
      go_simp
      try with_reducible rfl
    · rfl
    · exact fun _ _ _ h => h
    try simp only [Act.put, List.setIfInBounds_toArray, List.set_cons_zero, List.set_cons_succ]
    refine held_take (i := 5) (fuel := 5) (v := ?_) (by rw [List.getElem?_toArray]; rfl) (by kernel_rfl) (by kernel_rfl) (by kernel_rfl) hHeld ?_ ?_ ?_ ?_
    rotate_left
    · intro u hSw
      obtain ⟨c0, c1, c2, c3, c4, c5⟩ := hcs.out u hSw
      go_simp
      try with_reducible rfl
    · rfl
    · exact fun _ _ _ h => h
    try simp only [Act.put, List.setIfInBounds_toArray, List.set_cons_zero, List.set_cons_succ]
    refine held_one (i := 1) (fuel := 4) (by kernel_rfl) (by rw [List.getElem?_toArray]; rfl) (fun K hK => ?_)
    go_simp
    refine (HF1.out _).mono ?_
    rintro f w3 ⟨rfl, hb3⟩
    refine hK.out _ _ ?_ (fun hHeld => ?_)
    · exact hHeld.trans (hb3.mono hHeld.size)
    clear hK K
    try simp only [Act.put, List.setIfInBounds_toArray, List.set_cons_zero, List.set_cons_succ]
    refine held_one (i := 6) (fuel := 3) (by kernel_rfl) (by rw [List.getElem?_toArray]; rfl) (fun K hK => ?_)
    go_simp
    refine (HNC.out _ (HB1.out.trans (hHeld.mono HB1.out.size))).mono ?_
    rintro f w4 ⟨rfl, hb4⟩
    refine hK.out _ _ ?_ (fun hHeld => ?_)
    · exact hHeld.trans (hb4.mono hHeld.size)
    clear hK K
    try simp only [Act.put, List.setIfInBounds_toArray, List.set_cons_zero, List.set_cons_succ]
    refine held_one (i := 7) (fuel := 2) (by kernel_rfl) (by rw [List.getElem?_toArray]; rfl) (fun K hK => ?_)
    go_simp
    refine (HF2.out _).mono ?_
    rintro f w5 ⟨rfl, hb5⟩
    refine hK.out _ _ ?_ (fun hHeld => ?_)
    · exact hHeld.trans (hb5.mono hHeld.size)
    clear hK K
    try simp only [Act.put, List.setIfInBounds_toArray, List.set_cons_zero, List.set_cons_succ]
    refine held_take (i := 8) (fuel := 1) (v := ?_) (by rw [List.getElem?_toArray]; rfl) (by kernel_rfl) (by kernel_rfl) (by kernel_rfl) hHeld ?_ ?_ ?_ ?_
    rotate_left
    · intro u hSw
      go_simp
      try with_reducible rfl
    · rfl
    · exact fun _ _ _ h => h
    try simp only [Act.put, List.setIfInBounds_toArray, List.set_cons_zero, List.set_cons_succ]
    refine held_take (i := 9) (fuel := 0) (v := ?_) (by rw [List.getElem?_toArray]; rfl) (by kernel_rfl) (by kernel_rfl) (by kernel_rfl) hHeld ?_ ?_ ?_ ?_
    rotate_left
    · intro u hSw
      go_simp
      try with_reducible rfl
    · rfl
    · exact fun _ _ _ h => h
    try simp only [Act.put, List.setIfInBounds_toArray, List.set_cons_zero, List.set_cons_succ]
    refine wpAnyH_done (by kernel_rfl) ?_ _
    have HF5 : Hid (Below w1.heap.size w1 w5) := Lib.hid hHeld
    clear hHeld
    go_wp2_with fail
    go_ret
    exact ⟨rfl, HB1.out.trans (HF5.out.mono HB1.out.size)⟩
    
  | true =>
    go_enter Try.func67, Try.ntmps67
    go_wp2_with fail
    rw [← hW]
    refine (targsCheck_any ⟨tx, cl, kN, kE, kS, F⟩ (d : Int) sd W).mono ?_
    rintro f w1 ⟨bc, bg, bs', bd, rfl, hck, hb1⟩
    have HB1 : Hid (Below w.heap.size w w1) := Lib.hid (HBW.out.trans (hb1.mono HBW.out.size))
    have hcg : Hid (∀ u : World, Below w1.heap.size w1 u → u.cell? ⟨w.heap.size, 0, none⟩ = some (.int .i64 tx) ∧ u.cell? ⟨w.heap.size, 1, none⟩ = some (.int .i64 cl) ∧ u.cell? ⟨w.heap.size, 2, none⟩ = some (.func (.func kN) #[] #[]) ∧ u.cell? ⟨w.heap.size, 3, none⟩ = some (.func (.func kE) F #[]) ∧ u.cell? ⟨w.heap.size, 4, none⟩ = some (.func (.func kS) F #[])) := Lib.hid (fun u hb => by
      have hk : Blk w1 (w.heap.size) 71 #[.int .i64 tx, .int .i64 cl, .func (.func kN) #[] #[], .func (.func kE) F #[], .func (.func kS) F #[]] := (HG.out).below hb1 HG.out.lt
      have hk2 := hk.below hb hk.lt
      exact ⟨hk2.cell 0, hk2.cell 1, hk2.cell 2, hk2.cell 3, hk2.cell 4⟩)
    have hcs : Hid (∀ u : World, Below w1.heap.size w1 u → u.cell? ⟨w.heap.size + 1, 0, none⟩ = some (.int .i64 xk) ∧ u.cell? ⟨w.heap.size + 1, 1, none⟩ = some (.int .i64 xm) ∧ u.cell? ⟨w.heap.size + 1, 2, none⟩ = some (.string (bs xs)) ∧ u.cell? ⟨w.heap.size + 1, 3, none⟩ = some (.slice xA xn xc') ∧ u.cell? ⟨w.heap.size + 1, 4, none⟩ = some (.slice xA1 xn1 xc1) ∧ u.cell? ⟨w.heap.size + 1, 5, none⟩ = some (.slice xA2 xn2 xc2)) := Lib.hid (fun u hb => by
      have hk : Blk w1 (w.heap.size + 1) 48 #[.int .i64 xk, .int .i64 xm, .string (bs xs), .slice xA xn xc', .slice xA1 xn1 xc1, .slice xA2 xn2 xc2] := (HS.out).below hb1 HS.out.lt
      have hk2 := hk.below hb hk.lt
      exact ⟨hk2.cell 0, hk2.cell 1, hk2.cell 2, hk2.cell 3, hk2.cell 4, hk2.cell 5⟩)
    have HCK := Lib.hid hck
    clear hb1 hck hW
    have HARG : Hid (∀ u : World, Below w1.heap.size w1 u → Calls Try.prog 85 #[.slice xA xn xc', .pointer (some ⟨bc, 0, none⟩)] u fun f w' => f = .returned (.bool q3) ∧ Below u.heap.size u w') := Lib.hid (fun u hb => HAC.out u bc bg bs' bd (HB1.out.trans (hb.mono HB1.out.size)) (HCK.out.below hb))
    go_wp2_with fail
    refine wp_region_held_drew (S := Below w1.heap.size w1) (by kernel_rfl) (Below.refl _ _).drew (fun hHeld => ?_)
    refine held_take (i := 0) (fuel := 9) (v := ?_) (by rw [List.getElem?_toArray]; rfl) (by kernel_rfl) (by kernel_rfl) (by kernel_rfl) hHeld ?_ ?_ ?_ ?_
    rotate_left
    · intro u hSw
      obtain ⟨c0, c1, c2, c3, c4, c5⟩ := hcs.out u hSw
      go_simp
      try with_reducible rfl
    · rfl
    · exact fun _ _ _ h => h
    try simp only [Act.put, List.setIfInBounds_toArray, List.set_cons_zero, List.set_cons_succ]
    refine held_take (i := 2) (fuel := 8) (v := ?_) (by rw [List.getElem?_toArray]; rfl) (by kernel_rfl) (by kernel_rfl) (by kernel_rfl) hHeld ?_ ?_ ?_ ?_
    rotate_left
    · intro u hSw
      obtain ⟨c0, c1, c2, c3, c4, c5⟩ := hcs.out u hSw
      go_simp
      try with_reducible rfl
    · rfl
    · exact fun _ _ _ h => h
    try simp only [Act.put, List.setIfInBounds_toArray, List.set_cons_zero, List.set_cons_succ]
    refine held_take (i := 3) (fuel := 7) (v := ?_) (by rw [List.getElem?_toArray]; rfl) (by kernel_rfl) (by kernel_rfl) (by kernel_rfl) hHeld ?_ ?_ ?_ ?_
    rotate_left
    · intro u hSw
      go_simp
      try with_reducible rfl
    · rfl
    · exact fun _ _ _ h => h
    try simp only [Act.put, List.setIfInBounds_toArray, List.set_cons_zero, List.set_cons_succ]
    refine held_take (i := 4) (fuel := 6) (v := ?_) (by rw [List.getElem?_toArray]; rfl) (by kernel_rfl) (by kernel_rfl) (by kernel_rfl) hHeld ?_ ?_ ?_ ?_
    rotate_left
    · intro u hSw
      obtain ⟨c0, c1, c2, c3, c4⟩ := hcg.out u hSw
      go_simp
      try with_reducible rfl
    · rfl
    · exact fun _ _ _ h => h
    try simp only [Act.put, List.setIfInBounds_toArray, List.set_cons_zero, List.set_cons_succ]
    refine held_take (i := 5) (fuel := 5) (v := ?_) (by rw [List.getElem?_toArray]; rfl) (by kernel_rfl) (by kernel_rfl) (by kernel_rfl) hHeld ?_ ?_ ?_ ?_
    rotate_left
    · intro u hSw
      obtain ⟨c0, c1, c2, c3, c4, c5⟩ := hcs.out u hSw
      go_simp
      try with_reducible rfl
    · rfl
    · exact fun _ _ _ h => h
    try simp only [Act.put, List.setIfInBounds_toArray, List.set_cons_zero, List.set_cons_succ]
    refine held_one (i := 1) (fuel := 4) (by kernel_rfl) (by rw [List.getElem?_toArray]; rfl) (fun K hK => ?_)
    go_simp
    refine (HF1.out _).mono ?_
    rintro f w3 ⟨rfl, hb3⟩
    refine hK.out _ _ ?_ (fun hHeld => ?_)
    · exact hHeld.trans (hb3.mono hHeld.size)
    clear hK K
    try simp only [Act.put, List.setIfInBounds_toArray, List.set_cons_zero, List.set_cons_succ]
    refine held_one (i := 6) (fuel := 3) (by kernel_rfl) (by rw [List.getElem?_toArray]; rfl) (fun K hK => ?_)
    go_simp
    refine (HNC.out _ (HB1.out.trans (hHeld.mono HB1.out.size))).mono ?_
    rintro f w4 ⟨rfl, hb4⟩
    refine hK.out _ _ ?_ (fun hHeld => ?_)
    · exact hHeld.trans (hb4.mono hHeld.size)
    clear hK K
    try simp only [Act.put, List.setIfInBounds_toArray, List.set_cons_zero, List.set_cons_succ]
    refine held_one (i := 7) (fuel := 2) (by kernel_rfl) (by rw [List.getElem?_toArray]; rfl) (fun K hK => ?_)
    go_simp
    refine (HF2.out _).mono ?_
    rintro f w5 ⟨rfl, hb5⟩
    refine hK.out _ _ ?_ (fun hHeld => ?_)
    · exact hHeld.trans (hb5.mono hHeld.size)
    clear hK K
    try simp only [Act.put, List.setIfInBounds_toArray, List.set_cons_zero, List.set_cons_succ]
    refine held_take (i := 8) (fuel := 1) (v := ?_) (by rw [List.getElem?_toArray]; rfl) (by kernel_rfl) (by kernel_rfl) (by kernel_rfl) hHeld ?_ ?_ ?_ ?_
    rotate_left
    · intro u hSw
      go_simp
      try with_reducible rfl
    · rfl
    · exact fun _ _ _ h => h
    try simp only [Act.put, List.setIfInBounds_toArray, List.set_cons_zero, List.set_cons_succ]
    refine held_take (i := 9) (fuel := 0) (v := ?_) (by rw [List.getElem?_toArray]; rfl) (by kernel_rfl) (by kernel_rfl) (by kernel_rfl) hHeld ?_ ?_ ?_ ?_
    rotate_left
    · intro u hSw
      go_simp
      try with_reducible rfl
    · rfl
    · exact fun _ _ _ h => h
    try simp only [Act.put, List.setIfInBounds_toArray, List.set_cons_zero, List.set_cons_succ]
    refine wpAnyH_done (by kernel_rfl) ?_ _
    have HF5 : Hid (Below w1.heap.size w1 w5) := Lib.hid hHeld
    clear hHeld
    obtain ⟨g0, g1, g2, g3, g4⟩ := hcg.out w5 HF5.out
    obtain ⟨e0, e1, e2, e3, e4, e5⟩ := hcs.out w5 HF5.out
    go_wp2_with fail
    refine (HYC.out w5 (HB1.out.trans (HF5.out.mono HB1.out.size))).mono ?_
    rintro f w6 ⟨rfl, hb6⟩
    have HF6 : Hid (Below w1.heap.size w1 w6) := Lib.hid (HF5.out.trans (hb6.mono HF5.out.size))
    clear hb6
    clear g0 g1 g2 g3 g4 e0 e1 e2 e3 e4 e5
    cases q2 with
    | false =>
      go_wp2_with fail
      go_ret
      exact ⟨rfl, HB1.out.trans (HF6.out.mono HB1.out.size)⟩
    | true =>
      obtain ⟨g0, g1, g2, g3, g4⟩ := hcg.out w6 HF6.out
      obtain ⟨e0, e1, e2, e3, e4, e5⟩ := hcs.out w6 HF6.out
      go_wp2_with fail
      refine (HARG.out w6 HF6.out).mono ?_
      rintro f w7 ⟨rfl, hb7⟩
      have HF7 : Hid (Below w1.heap.size w1 w7) := Lib.hid (HF6.out.trans (hb7.mono HF6.out.size))
      clear hb7
      clear g0 g1 g2 g3 g4 e0 e1 e2 e3 e4 e5
      cases q3 with
      | false =>
        go_wp2_with fail
        go_ret
        exact ⟨rfl, HB1.out.trans (HF7.out.mono HB1.out.size)⟩
      | true =>
        obtain ⟨g0, g1, g2, g3, g4⟩ := hcg.out w7 HF7.out
        obtain ⟨e0, e1, e2, e3, e4, e5⟩ := hcs.out w7 HF7.out
        by_cases h19 : xk = 19
        · have t19 : (xk == 19) = true := by rw [beq_iff_eq]; exact h19
          have hx1 := HN1.out (by first | rfl | trivial) h19
          have hx0 : 0 < xn := by omega
          have HB7 := Lib.hid (HB1.out.trans (HF7.out.mono HB1.out.size))
          obtain ⟨zad, hzA, zab, zc⟩ := row_at (HROW.out.below HB7.out) hx0
          obtain ⟨z, hze⟩ : ∃ z, z = xes[0]?.getD nilE := ⟨_, rfl⟩
          have z0 := (zc z hze).1
          obtain ⟨zk, hzk⟩ : ∃ zk, zk = z.kind := ⟨_, rfl⟩
          rw [← hzk, Nat.zero_mul, addr_zero] at z0
          have hz1 : (xes[0]?.getD nilE).kind = zk := by rw [← hze, hzk]
          have i0 : (0 : Int) < (xn : Int) := by omega
          subst hzA
          by_cases h9 : zk = cl
          · have t9 : (zk != cl) = false := by simpa using h9
            have hq4 : q4 = true := by rw [HQ4.out, hz1, decide_eq_true h9, Bool.or_true]
            subst hq4
            clear zc hze hzk hz1 hx0 hx1 h9 h19
            go_wp2_with fail
            go_quiet (fail)
            go_wp2_with fail
            refine (HBC.out _ (HB1.out.trans ((below_drewN HF7.out _).mono HB1.out.size))).mono ?_
            rintro f w8 ⟨rfl, hb8⟩
            have HF8 : Hid (Below w1.heap.size w1 w8) := Lib.hid ((below_drewN HF7.out _).trans (hb8.mono (below_drewN HF7.out _).size))
            clear hb8
            clear g0 g1 g2 g3 g4 e0 e1 e2 e3 e4 e5
            cases b1 with
            | false =>
              go_wp2_with fail
              go_ret
              exact ⟨rfl, HB1.out.trans (HF8.out.mono HB1.out.size)⟩
            | true =>
              obtain ⟨g0, g1, g2, g3, g4⟩ := hcg.out w8 HF8.out
              obtain ⟨e0, e1, e2, e3, e4, e5⟩ := hcs.out w8 HF8.out
              go_wp2_with fail
              refine (HEC.out _ (HB1.out.trans (HF8.out.mono HB1.out.size))).mono ?_
              rintro f w9 ⟨rfl, hb9⟩
              have HF9 : Hid (Below w1.heap.size w1 w9) := Lib.hid (HF8.out.trans (hb9.mono HF8.out.size))
              clear hb9
              clear g0 g1 g2 g3 g4 e0 e1 e2 e3 e4 e5
              go_wp2_with fail
              go_ret
              exact ⟨rfl, HB1.out.trans (HF9.out.mono HB1.out.size)⟩
          · have t9 : (zk != cl) = true := by rw [bne_iff_ne]; exact h9
            have hq4 : q4 = false := by rw [HQ4.out, hz1, decide_eq_false h9, decide_eq_false (by simpa using h19), Bool.or_false]
            subst hq4
            clear zc hze hzk hz1 hx0 hx1 h9 h19
            go_wp2_with fail
            go_quiet (fail)
            go_wp2_with fail
            go_ret
            exact ⟨rfl, HB1.out.trans ((below_drewN HF7.out _).mono HB1.out.size)⟩
        · have t19 : (xk == 19) = false := by rw [beq_eq_false_iff_ne]; exact h19
          have hq4 : q4 = true := by rw [HQ4.out, decide_eq_true (p := xk ≠ 19) h19, Bool.true_or]
          subst hq4
          clear h19
          go_wp2_with fail
          go_quiet (fail)
          go_wp2_with fail
          refine (HBC.out _ (HB1.out.trans ((below_drewN HF7.out _).mono HB1.out.size))).mono ?_
          rintro f w8 ⟨rfl, hb8⟩
          have HF8 : Hid (Below w1.heap.size w1 w8) := Lib.hid ((below_drewN HF7.out _).trans (hb8.mono (below_drewN HF7.out _).size))
          clear hb8
          clear g0 g1 g2 g3 g4 e0 e1 e2 e3 e4 e5
          cases b1 with
          | false =>
            go_wp2_with fail
            go_ret
            exact ⟨rfl, HB1.out.trans (HF8.out.mono HB1.out.size)⟩
          | true =>
            obtain ⟨g0, g1, g2, g3, g4⟩ := hcg.out w8 HF8.out
            obtain ⟨e0, e1, e2, e3, e4, e5⟩ := hcs.out w8 HF8.out
            go_wp2_with fail
            refine (HEC.out _ (HB1.out.trans (HF8.out.mono HB1.out.size))).mono ?_
            rintro f w9 ⟨rfl, hb9⟩
            have HF9 : Hid (Below w1.heap.size w1 w9) := Lib.hid (HF8.out.trans (hb9.mono HF8.out.size))
            clear hb9
            clear g0 g1 g2 g3 g4 e0 e1 e2 e3 e4 e5
            go_wp2_with fail
            go_ret
            exact ⟨rfl, HB1.out.trans (HF9.out.mono HB1.out.size)⟩

theorem tvalid_all (w0 : World) (G : LG) (X : EL → Bool) (Y : SL → Bool) (lb : SL → Int × List UInt8) (hok : LGok w0 G X Y lb) : ∀ d : Nat, (d : Int) ≤ 100000 → VBAt w0 G X Y lb d := by
  intro d
  induction d with
  | zero => intro _; exact tvalidBlock_zero w0 G X Y lb
  | succ d ih =>
    intro hd
    exact tvalidBlock_succ w0 G X Y lb d hd (tvalidStmt_of w0 G X Y lb hok d (by omega) (tvalidExpr_any w0 G X Y lb hok d (by omega)) (ih (by omega)))

end

section
open Go.RowKit
set_option linter.unusedVariables false

set_option maxRecDepth 100000 in
set_option maxHeartbeats 1600000 in
theorem bkS_1 (t1 t2 t3 t4 : Int) (S1 : Option Addr) (m1 k1 : Nat) (fl : Int) (S2 : Option Addr) (m2 k2 : Nat) (S3 : Option Addr) (m3 k3 : Nat) (S4 : Option Addr) (m4 k4 : Nat) (S5 : Option Addr) (m5 k5 : Nat) (S6 : Option Addr) (m6 k6 : Nat) (S7 : Option Addr) (m7 k7 : Nat) (S8 : Option Addr) (m8 k8 : Nat) (S9 : Option Addr) (m9 k9 : Nat) (S10 : Option Addr) (m10 k10 : Nat) (loc : Int) (m : Int) (s : List UInt8) (A : Option Addr) (n c : Nat) (A1 : Option Addr) (n1 c1 : Nat) (A2 : Option Addr) (n2 c2 : Nat) (hm1 : (m1 : Int) ≤ 9223372036854775807) (hm2 : (m2 : Int) ≤ 9223372036854775807) (hm3 : (m3 : Int) ≤ 9223372036854775807) (hm8 : (m8 : Int) ≤ 9223372036854775807) (w : World) : Calls Try.prog 63 #[.agg #[.int .i64 t1, .int .i64 t2, .int .i64 t3, .int .i64 t4, .slice S1 m1 k1, .int .i64 fl, .slice S2 m2 k2, .slice S3 m3 k3, .slice S4 m4 k4, .slice S5 m5 k5, .slice S6 m6 k6, .slice S7 m7 k7, .slice S8 m8 k8, .slice S9 m9 k9, .slice S10 m10 k10, .int .i64 loc], .agg #[.int .i64 1, .int .i64 m, .string (bs s), .slice A n c, .slice A1 n1 c1, .slice A2 n2 c2]] w fun f w' => f = .returned (.bool (true)) ∧ Below w.heap.size w w' := by
  go_enter Try.func63, Try.ntmps63
  go_wp2_with fail
  go_ret
  exact ⟨rfl, ((Below.refl _ _).alloc (Nat.le_refl _) _).alloc (by simp) _⟩

set_option maxRecDepth 100000 in
set_option maxHeartbeats 1600000 in
theorem bkS_2 (t1 t2 t3 t4 : Int) (S1 : Option Addr) (m1 k1 : Nat) (fl : Int) (S2 : Option Addr) (m2 k2 : Nat) (S3 : Option Addr) (m3 k3 : Nat) (S4 : Option Addr) (m4 k4 : Nat) (S5 : Option Addr) (m5 k5 : Nat) (S6 : Option Addr) (m6 k6 : Nat) (S7 : Option Addr) (m7 k7 : Nat) (S8 : Option Addr) (m8 k8 : Nat) (S9 : Option Addr) (m9 k9 : Nat) (S10 : Option Addr) (m10 k10 : Nat) (loc : Int) (m : Int) (s : List UInt8) (A : Option Addr) (n c : Nat) (A1 : Option Addr) (n1 c1 : Nat) (A2 : Option Addr) (n2 c2 : Nat) (hm1 : (m1 : Int) ≤ 9223372036854775807) (hm2 : (m2 : Int) ≤ 9223372036854775807) (hm3 : (m3 : Int) ≤ 9223372036854775807) (hm8 : (m8 : Int) ≤ 9223372036854775807) (w : World) : Calls Try.prog 63 #[.agg #[.int .i64 t1, .int .i64 t2, .int .i64 t3, .int .i64 t4, .slice S1 m1 k1, .int .i64 fl, .slice S2 m2 k2, .slice S3 m3 k3, .slice S4 m4 k4, .slice S5 m5 k5, .slice S6 m6 k6, .slice S7 m7 k7, .slice S8 m8 k8, .slice S9 m9 k9, .slice S10 m10 k10, .int .i64 loc], .agg #[.int .i64 2, .int .i64 m, .string (bs s), .slice A n c, .slice A1 n1 c1, .slice A2 n2 c2]] w fun f w' => f = .returned (.bool (idxB m loc)) ∧ Below w.heap.size w w' := by
  go_enter Try.func63, Try.ntmps63
  go_wp2_with fail
  refine (tisIndex_any _ _ _).mono ?_
  rintro f w2 ⟨rfl, rfl⟩
  go_wp2_with fail
  go_ret
  exact ⟨rfl, ((Below.refl _ _).alloc (Nat.le_refl _) _).alloc (by simp) _⟩

set_option maxRecDepth 100000 in
set_option maxHeartbeats 1600000 in
theorem bkS_3 (t1 t2 t3 t4 : Int) (S1 : Option Addr) (m1 k1 : Nat) (fl : Int) (S2 : Option Addr) (m2 k2 : Nat) (S3 : Option Addr) (m3 k3 : Nat) (S4 : Option Addr) (m4 k4 : Nat) (S5 : Option Addr) (m5 k5 : Nat) (S6 : Option Addr) (m6 k6 : Nat) (S7 : Option Addr) (m7 k7 : Nat) (S8 : Option Addr) (m8 k8 : Nat) (S9 : Option Addr) (m9 k9 : Nat) (S10 : Option Addr) (m10 k10 : Nat) (loc : Int) (m : Int) (s : List UInt8) (A : Option Addr) (n c : Nat) (A1 : Option Addr) (n1 c1 : Nat) (A2 : Option Addr) (n2 c2 : Nat) (hm1 : (m1 : Int) ≤ 9223372036854775807) (hm2 : (m2 : Int) ≤ 9223372036854775807) (hm3 : (m3 : Int) ≤ 9223372036854775807) (hm8 : (m8 : Int) ≤ 9223372036854775807) (w : World) : Calls Try.prog 63 #[.agg #[.int .i64 t1, .int .i64 t2, .int .i64 t3, .int .i64 t4, .slice S1 m1 k1, .int .i64 fl, .slice S2 m2 k2, .slice S3 m3 k3, .slice S4 m4 k4, .slice S5 m5 k5, .slice S6 m6 k6, .slice S7 m7 k7, .slice S8 m8 k8, .slice S9 m9 k9, .slice S10 m10 k10, .int .i64 loc], .agg #[.int .i64 3, .int .i64 m, .string (bs s), .slice A n c, .slice A1 n1 c1, .slice A2 n2 c2]] w fun f w' => f = .returned (.bool (idxB m loc)) ∧ Below w.heap.size w w' := by
  go_enter Try.func63, Try.ntmps63
  go_wp2_with fail
  refine (tisIndex_any _ _ _).mono ?_
  rintro f w2 ⟨rfl, rfl⟩
  go_wp2_with fail
  go_ret
  exact ⟨rfl, ((Below.refl _ _).alloc (Nat.le_refl _) _).alloc (by simp) _⟩

set_option maxRecDepth 100000 in
set_option maxHeartbeats 1600000 in
theorem bkS_4 (t1 t2 t3 t4 : Int) (S1 : Option Addr) (m1 k1 : Nat) (fl : Int) (S2 : Option Addr) (m2 k2 : Nat) (S3 : Option Addr) (m3 k3 : Nat) (S4 : Option Addr) (m4 k4 : Nat) (S5 : Option Addr) (m5 k5 : Nat) (S6 : Option Addr) (m6 k6 : Nat) (S7 : Option Addr) (m7 k7 : Nat) (S8 : Option Addr) (m8 k8 : Nat) (S9 : Option Addr) (m9 k9 : Nat) (S10 : Option Addr) (m10 k10 : Nat) (loc : Int) (m : Int) (s : List UInt8) (A : Option Addr) (n c : Nat) (A1 : Option Addr) (n1 c1 : Nat) (A2 : Option Addr) (n2 c2 : Nat) (hm1 : (m1 : Int) ≤ 9223372036854775807) (hm2 : (m2 : Int) ≤ 9223372036854775807) (hm3 : (m3 : Int) ≤ 9223372036854775807) (hm8 : (m8 : Int) ≤ 9223372036854775807) (w : World) : Calls Try.prog 63 #[.agg #[.int .i64 t1, .int .i64 t2, .int .i64 t3, .int .i64 t4, .slice S1 m1 k1, .int .i64 fl, .slice S2 m2 k2, .slice S3 m3 k3, .slice S4 m4 k4, .slice S5 m5 k5, .slice S6 m6 k6, .slice S7 m7 k7, .slice S8 m8 k8, .slice S9 m9 k9, .slice S10 m10 k10, .int .i64 loc], .agg #[.int .i64 4, .int .i64 m, .string (bs s), .slice A n c, .slice A1 n1 c1, .slice A2 n2 c2]] w fun f w' => f = .returned (.bool (idxB m m2)) ∧ Below w.heap.size w w' := by
  go_enter Try.func63, Try.ntmps63
  go_wp2_with fail
  refine (tisIndex_any _ _ _).mono ?_
  rintro f w2 ⟨rfl, rfl⟩
  go_wp2_with fail
  go_ret
  exact ⟨rfl, ((Below.refl _ _).alloc (Nat.le_refl _) _).alloc (by simp) _⟩

set_option maxRecDepth 100000 in
set_option maxHeartbeats 1600000 in
theorem bkS_5 (t1 t2 t3 t4 : Int) (S1 : Option Addr) (m1 k1 : Nat) (fl : Int) (S2 : Option Addr) (m2 k2 : Nat) (S3 : Option Addr) (m3 k3 : Nat) (S4 : Option Addr) (m4 k4 : Nat) (S5 : Option Addr) (m5 k5 : Nat) (S6 : Option Addr) (m6 k6 : Nat) (S7 : Option Addr) (m7 k7 : Nat) (S8 : Option Addr) (m8 k8 : Nat) (S9 : Option Addr) (m9 k9 : Nat) (S10 : Option Addr) (m10 k10 : Nat) (loc : Int) (m : Int) (s : List UInt8) (A : Option Addr) (n c : Nat) (A1 : Option Addr) (n1 c1 : Nat) (A2 : Option Addr) (n2 c2 : Nat) (hm1 : (m1 : Int) ≤ 9223372036854775807) (hm2 : (m2 : Int) ≤ 9223372036854775807) (hm3 : (m3 : Int) ≤ 9223372036854775807) (hm8 : (m8 : Int) ≤ 9223372036854775807) (w : World) : Calls Try.prog 63 #[.agg #[.int .i64 t1, .int .i64 t2, .int .i64 t3, .int .i64 t4, .slice S1 m1 k1, .int .i64 fl, .slice S2 m2 k2, .slice S3 m3 k3, .slice S4 m4 k4, .slice S5 m5 k5, .slice S6 m6 k6, .slice S7 m7 k7, .slice S8 m8 k8, .slice S9 m9 k9, .slice S10 m10 k10, .int .i64 loc], .agg #[.int .i64 5, .int .i64 m, .string (bs s), .slice A n c, .slice A1 n1 c1, .slice A2 n2 c2]] w fun f w' => f = .returned (.bool (idxB m fl)) ∧ Below w.heap.size w w' := by
  go_enter Try.func63, Try.ntmps63
  go_wp2_with fail
  refine (tisIndex_any _ _ _).mono ?_
  rintro f w2 ⟨rfl, rfl⟩
  go_wp2_with fail
  go_ret
  exact ⟨rfl, ((Below.refl _ _).alloc (Nat.le_refl _) _).alloc (by simp) _⟩

set_option maxRecDepth 100000 in
set_option maxHeartbeats 1600000 in
theorem bkS_6 (t1 t2 t3 t4 : Int) (S1 : Option Addr) (m1 k1 : Nat) (fl : Int) (S2 : Option Addr) (m2 k2 : Nat) (S3 : Option Addr) (m3 k3 : Nat) (S4 : Option Addr) (m4 k4 : Nat) (S5 : Option Addr) (m5 k5 : Nat) (S6 : Option Addr) (m6 k6 : Nat) (S7 : Option Addr) (m7 k7 : Nat) (S8 : Option Addr) (m8 k8 : Nat) (S9 : Option Addr) (m9 k9 : Nat) (S10 : Option Addr) (m10 k10 : Nat) (loc : Int) (m : Int) (s : List UInt8) (A : Option Addr) (n c : Nat) (A1 : Option Addr) (n1 c1 : Nat) (A2 : Option Addr) (n2 c2 : Nat) (hm1 : (m1 : Int) ≤ 9223372036854775807) (hm2 : (m2 : Int) ≤ 9223372036854775807) (hm3 : (m3 : Int) ≤ 9223372036854775807) (hm8 : (m8 : Int) ≤ 9223372036854775807) (w : World) : Calls Try.prog 63 #[.agg #[.int .i64 t1, .int .i64 t2, .int .i64 t3, .int .i64 t4, .slice S1 m1 k1, .int .i64 fl, .slice S2 m2 k2, .slice S3 m3 k3, .slice S4 m4 k4, .slice S5 m5 k5, .slice S6 m6 k6, .slice S7 m7 k7, .slice S8 m8 k8, .slice S9 m9 k9, .slice S10 m10 k10, .int .i64 loc], .agg #[.int .i64 6, .int .i64 m, .string (bs s), .slice A n c, .slice A1 n1 c1, .slice A2 n2 c2]] w fun f w' => f = .returned (.bool (idxB m fl)) ∧ Below w.heap.size w w' := by
  go_enter Try.func63, Try.ntmps63
  go_wp2_with fail
  refine (tisIndex_any _ _ _).mono ?_
  rintro f w2 ⟨rfl, rfl⟩
  go_wp2_with fail
  go_ret
  exact ⟨rfl, ((Below.refl _ _).alloc (Nat.le_refl _) _).alloc (by simp) _⟩

set_option maxRecDepth 100000 in
set_option maxHeartbeats 1600000 in
theorem bkS_7 (t1 t2 t3 t4 : Int) (S1 : Option Addr) (m1 k1 : Nat) (fl : Int) (S2 : Option Addr) (m2 k2 : Nat) (S3 : Option Addr) (m3 k3 : Nat) (S4 : Option Addr) (m4 k4 : Nat) (S5 : Option Addr) (m5 k5 : Nat) (S6 : Option Addr) (m6 k6 : Nat) (S7 : Option Addr) (m7 k7 : Nat) (S8 : Option Addr) (m8 k8 : Nat) (S9 : Option Addr) (m9 k9 : Nat) (S10 : Option Addr) (m10 k10 : Nat) (loc : Int) (m : Int) (s : List UInt8) (A : Option Addr) (n c : Nat) (A1 : Option Addr) (n1 c1 : Nat) (A2 : Option Addr) (n2 c2 : Nat) (hm1 : (m1 : Int) ≤ 9223372036854775807) (hm2 : (m2 : Int) ≤ 9223372036854775807) (hm3 : (m3 : Int) ≤ 9223372036854775807) (hm8 : (m8 : Int) ≤ 9223372036854775807) (w : World) : Calls Try.prog 63 #[.agg #[.int .i64 t1, .int .i64 t2, .int .i64 t3, .int .i64 t4, .slice S1 m1 k1, .int .i64 fl, .slice S2 m2 k2, .slice S3 m3 k3, .slice S4 m4 k4, .slice S5 m5 k5, .slice S6 m6 k6, .slice S7 m7 k7, .slice S8 m8 k8, .slice S9 m9 k9, .slice S10 m10 k10, .int .i64 loc], .agg #[.int .i64 7, .int .i64 m, .string (bs s), .slice A n c, .slice A1 n1 c1, .slice A2 n2 c2]] w fun f w' => f = .returned (.bool (true)) ∧ Below w.heap.size w w' := by
  go_enter Try.func63, Try.ntmps63
  go_wp2_with fail
  go_ret
  exact ⟨rfl, ((Below.refl _ _).alloc (Nat.le_refl _) _).alloc (by simp) _⟩

set_option maxRecDepth 100000 in
set_option maxHeartbeats 1600000 in
theorem bkS_8 (t1 t2 t3 t4 : Int) (S1 : Option Addr) (m1 k1 : Nat) (fl : Int) (S2 : Option Addr) (m2 k2 : Nat) (S3 : Option Addr) (m3 k3 : Nat) (S4 : Option Addr) (m4 k4 : Nat) (S5 : Option Addr) (m5 k5 : Nat) (S6 : Option Addr) (m6 k6 : Nat) (S7 : Option Addr) (m7 k7 : Nat) (S8 : Option Addr) (m8 k8 : Nat) (S9 : Option Addr) (m9 k9 : Nat) (S10 : Option Addr) (m10 k10 : Nat) (loc : Int) (m : Int) (s : List UInt8) (A : Option Addr) (n c : Nat) (A1 : Option Addr) (n1 c1 : Nat) (A2 : Option Addr) (n2 c2 : Nat) (hm1 : (m1 : Int) ≤ 9223372036854775807) (hm2 : (m2 : Int) ≤ 9223372036854775807) (hm3 : (m3 : Int) ≤ 9223372036854775807) (hm8 : (m8 : Int) ≤ 9223372036854775807) (w : World) : Calls Try.prog 63 #[.agg #[.int .i64 t1, .int .i64 t2, .int .i64 t3, .int .i64 t4, .slice S1 m1 k1, .int .i64 fl, .slice S2 m2 k2, .slice S3 m3 k3, .slice S4 m4 k4, .slice S5 m5 k5, .slice S6 m6 k6, .slice S7 m7 k7, .slice S8 m8 k8, .slice S9 m9 k9, .slice S10 m10 k10, .int .i64 loc], .agg #[.int .i64 8, .int .i64 m, .string (bs s), .slice A n c, .slice A1 n1 c1, .slice A2 n2 c2]] w fun f w' => f = .returned (.bool (true)) ∧ Below w.heap.size w w' := by
  go_enter Try.func63, Try.ntmps63
  go_wp2_with fail
  go_ret
  exact ⟨rfl, ((Below.refl _ _).alloc (Nat.le_refl _) _).alloc (by simp) _⟩

set_option maxRecDepth 100000 in
set_option maxHeartbeats 1600000 in
theorem bkS_9 (t1 t2 t3 t4 : Int) (S1 : Option Addr) (m1 k1 : Nat) (fl : Int) (S2 : Option Addr) (m2 k2 : Nat) (S3 : Option Addr) (m3 k3 : Nat) (S4 : Option Addr) (m4 k4 : Nat) (S5 : Option Addr) (m5 k5 : Nat) (S6 : Option Addr) (m6 k6 : Nat) (S7 : Option Addr) (m7 k7 : Nat) (S8 : Option Addr) (m8 k8 : Nat) (S9 : Option Addr) (m9 k9 : Nat) (S10 : Option Addr) (m10 k10 : Nat) (loc : Int) (m : Int) (s : List UInt8) (A : Option Addr) (n c : Nat) (A1 : Option Addr) (n1 c1 : Nat) (A2 : Option Addr) (n2 c2 : Nat) (hm1 : (m1 : Int) ≤ 9223372036854775807) (hm2 : (m2 : Int) ≤ 9223372036854775807) (hm3 : (m3 : Int) ≤ 9223372036854775807) (hm8 : (m8 : Int) ≤ 9223372036854775807) (w : World) : Calls Try.prog 63 #[.agg #[.int .i64 t1, .int .i64 t2, .int .i64 t3, .int .i64 t4, .slice S1 m1 k1, .int .i64 fl, .slice S2 m2 k2, .slice S3 m3 k3, .slice S4 m4 k4, .slice S5 m5 k5, .slice S6 m6 k6, .slice S7 m7 k7, .slice S8 m8 k8, .slice S9 m9 k9, .slice S10 m10 k10, .int .i64 loc], .agg #[.int .i64 9, .int .i64 m, .string (bs s), .slice A n c, .slice A1 n1 c1, .slice A2 n2 c2]] w fun f w' => f = .returned (.bool (true)) ∧ Below w.heap.size w w' := by
  go_enter Try.func63, Try.ntmps63
  go_wp2_with fail
  go_ret
  exact ⟨rfl, ((Below.refl _ _).alloc (Nat.le_refl _) _).alloc (by simp) _⟩

set_option maxRecDepth 100000 in
set_option maxHeartbeats 1600000 in
theorem bkS_10 (t1 t2 t3 t4 : Int) (S1 : Option Addr) (m1 k1 : Nat) (fl : Int) (S2 : Option Addr) (m2 k2 : Nat) (S3 : Option Addr) (m3 k3 : Nat) (S4 : Option Addr) (m4 k4 : Nat) (S5 : Option Addr) (m5 k5 : Nat) (S6 : Option Addr) (m6 k6 : Nat) (S7 : Option Addr) (m7 k7 : Nat) (S8 : Option Addr) (m8 k8 : Nat) (S9 : Option Addr) (m9 k9 : Nat) (S10 : Option Addr) (m10 k10 : Nat) (loc : Int) (m : Int) (s : List UInt8) (A : Option Addr) (n c : Nat) (A1 : Option Addr) (n1 c1 : Nat) (A2 : Option Addr) (n2 c2 : Nat) (hm1 : (m1 : Int) ≤ 9223372036854775807) (hm2 : (m2 : Int) ≤ 9223372036854775807) (hm3 : (m3 : Int) ≤ 9223372036854775807) (hm8 : (m8 : Int) ≤ 9223372036854775807) (w : World) : Calls Try.prog 63 #[.agg #[.int .i64 t1, .int .i64 t2, .int .i64 t3, .int .i64 t4, .slice S1 m1 k1, .int .i64 fl, .slice S2 m2 k2, .slice S3 m3 k3, .slice S4 m4 k4, .slice S5 m5 k5, .slice S6 m6 k6, .slice S7 m7 k7, .slice S8 m8 k8, .slice S9 m9 k9, .slice S10 m10 k10, .int .i64 loc], .agg #[.int .i64 10, .int .i64 m, .string (bs s), .slice A n c, .slice A1 n1 c1, .slice A2 n2 c2]] w fun f w' => f = .returned (.bool (true)) ∧ Below w.heap.size w w' := by
  go_enter Try.func63, Try.ntmps63
  go_wp2_with fail
  go_ret
  exact ⟨rfl, ((Below.refl _ _).alloc (Nat.le_refl _) _).alloc (by simp) _⟩

set_option maxRecDepth 100000 in
set_option maxHeartbeats 1600000 in
theorem bkS_11 (t1 t2 t3 t4 : Int) (S1 : Option Addr) (m1 k1 : Nat) (fl : Int) (S2 : Option Addr) (m2 k2 : Nat) (S3 : Option Addr) (m3 k3 : Nat) (S4 : Option Addr) (m4 k4 : Nat) (S5 : Option Addr) (m5 k5 : Nat) (S6 : Option Addr) (m6 k6 : Nat) (S7 : Option Addr) (m7 k7 : Nat) (S8 : Option Addr) (m8 k8 : Nat) (S9 : Option Addr) (m9 k9 : Nat) (S10 : Option Addr) (m10 k10 : Nat) (loc : Int) (m : Int) (s : List UInt8) (A : Option Addr) (n c : Nat) (A1 : Option Addr) (n1 c1 : Nat) (A2 : Option Addr) (n2 c2 : Nat) (hm1 : (m1 : Int) ≤ 9223372036854775807) (hm2 : (m2 : Int) ≤ 9223372036854775807) (hm3 : (m3 : Int) ≤ 9223372036854775807) (hm8 : (m8 : Int) ≤ 9223372036854775807) (hloc : loc ≤ 9223372036854775807) (w : World) : Calls Try.prog 63 #[.agg #[.int .i64 t1, .int .i64 t2, .int .i64 t3, .int .i64 t4, .slice S1 m1 k1, .int .i64 fl, .slice S2 m2 k2, .slice S3 m3 k3, .slice S4 m4 k4, .slice S5 m5 k5, .slice S6 m6 k6, .slice S7 m7 k7, .slice S8 m8 k8, .slice S9 m9 k9, .slice S10 m10 k10, .int .i64 loc], .agg #[.int .i64 11, .int .i64 m, .string (bs s), .slice A n c, .slice A1 n1 c1, .slice A2 n2 c2]] w fun f w' => f = .returned (.bool (idxB m loc && idxB (m + 1) loc)) ∧ Below w.heap.size w w' := by
  by_cases h : 0 ≤ m ∧ m < loc
  · have h1 : 0 ≤ m + 1 := by omega
    have h2 : m + 1 ≤ 9223372036854775807 := by omega
    have HI1 : Hid (idxB m loc = true) := Lib.hid (idx_yes h)
    have wq : IntKind.i64.wrap (m + 1) = m + 1 := by rw [IntKind.wrap_i64]; omega
    rw [HI1.out, Bool.true_and]
    clear h
    go_enter Try.func63, Try.ntmps63
    go_wp2_with fail
    refine (tisIndex_any _ _ _).mono ?_
    rintro f w2 ⟨rfl, rfl⟩
    rw [HI1.out]
    go_wp2_with fail
    refine (tisIndex_any _ _ _).mono ?_
    rintro f w2 ⟨rfl, rfl⟩
    go_wp2_with fail
    go_ret
    exact ⟨rfl, ((Below.refl _ _).alloc (Nat.le_refl _) _).alloc (by simp) _⟩
  · have HI1 : Hid (idxB m loc = false) := Lib.hid (idx_no h)
    rw [HI1.out, Bool.false_and]
    clear h
    go_enter Try.func63, Try.ntmps63
    go_wp2_with fail
    refine (tisIndex_any _ _ _).mono ?_
    rintro f w2 ⟨rfl, rfl⟩
    rw [HI1.out]
    go_wp2_with fail
    go_ret
    exact ⟨rfl, ((Below.refl _ _).alloc (Nat.le_refl _) _).alloc (by simp) _⟩

set_option maxRecDepth 100000 in
set_option maxHeartbeats 1600000 in
theorem bkS_12 (t1 t2 t3 t4 : Int) (S1 : Option Addr) (m1 k1 : Nat) (fl : Int) (S2 : Option Addr) (m2 k2 : Nat) (S3 : Option Addr) (m3 k3 : Nat) (S4 : Option Addr) (m4 k4 : Nat) (S5 : Option Addr) (m5 k5 : Nat) (S6 : Option Addr) (m6 k6 : Nat) (S7 : Option Addr) (m7 k7 : Nat) (S8 : Option Addr) (m8 k8 : Nat) (S9 : Option Addr) (m9 k9 : Nat) (S10 : Option Addr) (m10 k10 : Nat) (loc : Int) (m : Int) (s : List UInt8) (A : Option Addr) (n c : Nat) (A1 : Option Addr) (n1 c1 : Nat) (A2 : Option Addr) (n2 c2 : Nat) (hm1 : (m1 : Int) ≤ 9223372036854775807) (hm2 : (m2 : Int) ≤ 9223372036854775807) (hm3 : (m3 : Int) ≤ 9223372036854775807) (hm8 : (m8 : Int) ≤ 9223372036854775807) (w : World) : Calls Try.prog 63 #[.agg #[.int .i64 t1, .int .i64 t2, .int .i64 t3, .int .i64 t4, .slice S1 m1 k1, .int .i64 fl, .slice S2 m2 k2, .slice S3 m3 k3, .slice S4 m4 k4, .slice S5 m5 k5, .slice S6 m6 k6, .slice S7 m7 k7, .slice S8 m8 k8, .slice S9 m9 k9, .slice S10 m10 k10, .int .i64 loc], .agg #[.int .i64 12, .int .i64 m, .string (bs s), .slice A n c, .slice A1 n1 c1, .slice A2 n2 c2]] w fun f w' => f = .returned (.bool (true)) ∧ Below w.heap.size w w' := by
  go_enter Try.func63, Try.ntmps63
  go_wp2_with fail
  go_ret
  exact ⟨rfl, ((Below.refl _ _).alloc (Nat.le_refl _) _).alloc (by simp) _⟩

set_option maxRecDepth 100000 in
set_option maxHeartbeats 1600000 in
theorem bkS_13 (t1 t2 t3 t4 : Int) (S1 : Option Addr) (m1 k1 : Nat) (fl : Int) (S2 : Option Addr) (m2 k2 : Nat) (S3 : Option Addr) (m3 k3 : Nat) (S4 : Option Addr) (m4 k4 : Nat) (S5 : Option Addr) (m5 k5 : Nat) (S6 : Option Addr) (m6 k6 : Nat) (S7 : Option Addr) (m7 k7 : Nat) (S8 : Option Addr) (m8 k8 : Nat) (S9 : Option Addr) (m9 k9 : Nat) (S10 : Option Addr) (m10 k10 : Nat) (loc : Int) (m : Int) (s : List UInt8) (A : Option Addr) (n c : Nat) (A1 : Option Addr) (n1 c1 : Nat) (A2 : Option Addr) (n2 c2 : Nat) (hm1 : (m1 : Int) ≤ 9223372036854775807) (hm2 : (m2 : Int) ≤ 9223372036854775807) (hm3 : (m3 : Int) ≤ 9223372036854775807) (hm8 : (m8 : Int) ≤ 9223372036854775807) (w : World) : Calls Try.prog 63 #[.agg #[.int .i64 t1, .int .i64 t2, .int .i64 t3, .int .i64 t4, .slice S1 m1 k1, .int .i64 fl, .slice S2 m2 k2, .slice S3 m3 k3, .slice S4 m4 k4, .slice S5 m5 k5, .slice S6 m6 k6, .slice S7 m7 k7, .slice S8 m8 k8, .slice S9 m9 k9, .slice S10 m10 k10, .int .i64 loc], .agg #[.int .i64 13, .int .i64 m, .string (bs s), .slice A n c, .slice A1 n1 c1, .slice A2 n2 c2]] w fun f w' => f = .returned (.bool (true)) ∧ Below w.heap.size w w' := by
  go_enter Try.func63, Try.ntmps63
  go_wp2_with fail
  go_ret
  exact ⟨rfl, ((Below.refl _ _).alloc (Nat.le_refl _) _).alloc (by simp) _⟩

set_option maxRecDepth 100000 in
set_option maxHeartbeats 1600000 in
theorem bkS_14 (t1 t2 t3 t4 : Int) (S1 : Option Addr) (m1 k1 : Nat) (fl : Int) (S2 : Option Addr) (m2 k2 : Nat) (S3 : Option Addr) (m3 k3 : Nat) (S4 : Option Addr) (m4 k4 : Nat) (S5 : Option Addr) (m5 k5 : Nat) (S6 : Option Addr) (m6 k6 : Nat) (S7 : Option Addr) (m7 k7 : Nat) (S8 : Option Addr) (m8 k8 : Nat) (S9 : Option Addr) (m9 k9 : Nat) (S10 : Option Addr) (m10 k10 : Nat) (loc : Int) (m : Int) (s : List UInt8) (A : Option Addr) (n c : Nat) (A1 : Option Addr) (n1 c1 : Nat) (A2 : Option Addr) (n2 c2 : Nat) (hm1 : (m1 : Int) ≤ 9223372036854775807) (hm2 : (m2 : Int) ≤ 9223372036854775807) (hm3 : (m3 : Int) ≤ 9223372036854775807) (hm8 : (m8 : Int) ≤ 9223372036854775807) (w : World) : Calls Try.prog 63 #[.agg #[.int .i64 t1, .int .i64 t2, .int .i64 t3, .int .i64 t4, .slice S1 m1 k1, .int .i64 fl, .slice S2 m2 k2, .slice S3 m3 k3, .slice S4 m4 k4, .slice S5 m5 k5, .slice S6 m6 k6, .slice S7 m7 k7, .slice S8 m8 k8, .slice S9 m9 k9, .slice S10 m10 k10, .int .i64 loc], .agg #[.int .i64 14, .int .i64 m, .string (bs s), .slice A n c, .slice A1 n1 c1, .slice A2 n2 c2]] w fun f w' => f = .returned (.bool (true)) ∧ Below w.heap.size w w' := by
  go_enter Try.func63, Try.ntmps63
  go_wp2_with fail
  go_ret
  exact ⟨rfl, ((Below.refl _ _).alloc (Nat.le_refl _) _).alloc (by simp) _⟩

set_option maxRecDepth 100000 in
set_option maxHeartbeats 1600000 in
theorem bkS_15 (t1 t2 t3 t4 : Int) (S1 : Option Addr) (m1 k1 : Nat) (fl : Int) (S2 : Option Addr) (m2 k2 : Nat) (S3 : Option Addr) (m3 k3 : Nat) (S4 : Option Addr) (m4 k4 : Nat) (S5 : Option Addr) (m5 k5 : Nat) (S6 : Option Addr) (m6 k6 : Nat) (S7 : Option Addr) (m7 k7 : Nat) (S8 : Option Addr) (m8 k8 : Nat) (S9 : Option Addr) (m9 k9 : Nat) (S10 : Option Addr) (m10 k10 : Nat) (loc : Int) (m : Int) (s : List UInt8) (A : Option Addr) (n c : Nat) (A1 : Option Addr) (n1 c1 : Nat) (A2 : Option Addr) (n2 c2 : Nat) (hm1 : (m1 : Int) ≤ 9223372036854775807) (hm2 : (m2 : Int) ≤ 9223372036854775807) (hm3 : (m3 : Int) ≤ 9223372036854775807) (hm8 : (m8 : Int) ≤ 9223372036854775807) (w : World) : Calls Try.prog 63 #[.agg #[.int .i64 t1, .int .i64 t2, .int .i64 t3, .int .i64 t4, .slice S1 m1 k1, .int .i64 fl, .slice S2 m2 k2, .slice S3 m3 k3, .slice S4 m4 k4, .slice S5 m5 k5, .slice S6 m6 k6, .slice S7 m7 k7, .slice S8 m8 k8, .slice S9 m9 k9, .slice S10 m10 k10, .int .i64 loc], .agg #[.int .i64 15, .int .i64 m, .string (bs s), .slice A n c, .slice A1 n1 c1, .slice A2 n2 c2]] w fun f w' => f = .returned (.bool (true)) ∧ Below w.heap.size w w' := by
  go_enter Try.func63, Try.ntmps63
  go_wp2_with fail
  go_ret
  exact ⟨rfl, ((Below.refl _ _).alloc (Nat.le_refl _) _).alloc (by simp) _⟩

set_option maxRecDepth 100000 in
set_option maxHeartbeats 1600000 in
theorem bkS_16 (t1 t2 t3 t4 : Int) (S1 : Option Addr) (m1 k1 : Nat) (fl : Int) (S2 : Option Addr) (m2 k2 : Nat) (S3 : Option Addr) (m3 k3 : Nat) (S4 : Option Addr) (m4 k4 : Nat) (S5 : Option Addr) (m5 k5 : Nat) (S6 : Option Addr) (m6 k6 : Nat) (S7 : Option Addr) (m7 k7 : Nat) (S8 : Option Addr) (m8 k8 : Nat) (S9 : Option Addr) (m9 k9 : Nat) (S10 : Option Addr) (m10 k10 : Nat) (loc : Int) (m : Int) (s : List UInt8) (A : Option Addr) (n c : Nat) (A1 : Option Addr) (n1 c1 : Nat) (A2 : Option Addr) (n2 c2 : Nat) (hm1 : (m1 : Int) ≤ 9223372036854775807) (hm2 : (m2 : Int) ≤ 9223372036854775807) (hm3 : (m3 : Int) ≤ 9223372036854775807) (hm8 : (m8 : Int) ≤ 9223372036854775807) (w : World) : Calls Try.prog 63 #[.agg #[.int .i64 t1, .int .i64 t2, .int .i64 t3, .int .i64 t4, .slice S1 m1 k1, .int .i64 fl, .slice S2 m2 k2, .slice S3 m3 k3, .slice S4 m4 k4, .slice S5 m5 k5, .slice S6 m6 k6, .slice S7 m7 k7, .slice S8 m8 k8, .slice S9 m9 k9, .slice S10 m10 k10, .int .i64 loc], .agg #[.int .i64 16, .int .i64 m, .string (bs s), .slice A n c, .slice A1 n1 c1, .slice A2 n2 c2]] w fun f w' => f = .returned (.bool (true)) ∧ Below w.heap.size w w' := by
  go_enter Try.func63, Try.ntmps63
  go_wp2_with fail
  go_ret
  exact ⟨rfl, ((Below.refl _ _).alloc (Nat.le_refl _) _).alloc (by simp) _⟩

set_option maxRecDepth 100000 in
set_option maxHeartbeats 1600000 in
theorem bkS_17 (t1 t2 t3 t4 : Int) (S1 : Option Addr) (m1 k1 : Nat) (fl : Int) (S2 : Option Addr) (m2 k2 : Nat) (S3 : Option Addr) (m3 k3 : Nat) (S4 : Option Addr) (m4 k4 : Nat) (S5 : Option Addr) (m5 k5 : Nat) (S6 : Option Addr) (m6 k6 : Nat) (S7 : Option Addr) (m7 k7 : Nat) (S8 : Option Addr) (m8 k8 : Nat) (S9 : Option Addr) (m9 k9 : Nat) (S10 : Option Addr) (m10 k10 : Nat) (loc : Int) (m : Int) (s : List UInt8) (A : Option Addr) (n c : Nat) (A1 : Option Addr) (n1 c1 : Nat) (A2 : Option Addr) (n2 c2 : Nat) (hm1 : (m1 : Int) ≤ 9223372036854775807) (hm2 : (m2 : Int) ≤ 9223372036854775807) (hm3 : (m3 : Int) ≤ 9223372036854775807) (hm8 : (m8 : Int) ≤ 9223372036854775807) (w : World) : Calls Try.prog 63 #[.agg #[.int .i64 t1, .int .i64 t2, .int .i64 t3, .int .i64 t4, .slice S1 m1 k1, .int .i64 fl, .slice S2 m2 k2, .slice S3 m3 k3, .slice S4 m4 k4, .slice S5 m5 k5, .slice S6 m6 k6, .slice S7 m7 k7, .slice S8 m8 k8, .slice S9 m9 k9, .slice S10 m10 k10, .int .i64 loc], .agg #[.int .i64 17, .int .i64 m, .string (bs s), .slice A n c, .slice A1 n1 c1, .slice A2 n2 c2]] w fun f w' => f = .returned (.bool (idxB m m8)) ∧ Below w.heap.size w w' := by
  go_enter Try.func63, Try.ntmps63
  go_wp2_with fail
  refine (tisIndex_any _ _ _).mono ?_
  rintro f w2 ⟨rfl, rfl⟩
  go_wp2_with fail
  go_ret
  exact ⟨rfl, ((Below.refl _ _).alloc (Nat.le_refl _) _).alloc (by simp) _⟩

set_option maxRecDepth 100000 in
set_option maxHeartbeats 1600000 in
theorem bkS_18 (t1 t2 t3 t4 : Int) (S1 : Option Addr) (m1 k1 : Nat) (fl : Int) (S2 : Option Addr) (m2 k2 : Nat) (S3 : Option Addr) (m3 k3 : Nat) (S4 : Option Addr) (m4 k4 : Nat) (S5 : Option Addr) (m5 k5 : Nat) (S6 : Option Addr) (m6 k6 : Nat) (S7 : Option Addr) (m7 k7 : Nat) (S8 : Option Addr) (m8 k8 : Nat) (S9 : Option Addr) (m9 k9 : Nat) (S10 : Option Addr) (m10 k10 : Nat) (loc : Int) (m : Int) (s : List UInt8) (A : Option Addr) (n c : Nat) (A1 : Option Addr) (n1 c1 : Nat) (A2 : Option Addr) (n2 c2 : Nat) (hm1 : (m1 : Int) ≤ 9223372036854775807) (hm2 : (m2 : Int) ≤ 9223372036854775807) (hm3 : (m3 : Int) ≤ 9223372036854775807) (hm8 : (m8 : Int) ≤ 9223372036854775807) (w : World) : Calls Try.prog 63 #[.agg #[.int .i64 t1, .int .i64 t2, .int .i64 t3, .int .i64 t4, .slice S1 m1 k1, .int .i64 fl, .slice S2 m2 k2, .slice S3 m3 k3, .slice S4 m4 k4, .slice S5 m5 k5, .slice S6 m6 k6, .slice S7 m7 k7, .slice S8 m8 k8, .slice S9 m9 k9, .slice S10 m10 k10, .int .i64 loc], .agg #[.int .i64 18, .int .i64 m, .string (bs s), .slice A n c, .slice A1 n1 c1, .slice A2 n2 c2]] w fun f w' => f = .returned (.bool (idxB m m8)) ∧ Below w.heap.size w w' := by
  go_enter Try.func63, Try.ntmps63
  go_wp2_with fail
  refine (tisIndex_any _ _ _).mono ?_
  rintro f w2 ⟨rfl, rfl⟩
  go_wp2_with fail
  go_ret
  exact ⟨rfl, ((Below.refl _ _).alloc (Nat.le_refl _) _).alloc (by simp) _⟩

set_option maxRecDepth 100000 in
set_option maxHeartbeats 1600000 in
theorem bkS_19 (t1 t2 t3 t4 : Int) (S1 : Option Addr) (m1 k1 : Nat) (fl : Int) (S2 : Option Addr) (m2 k2 : Nat) (S3 : Option Addr) (m3 k3 : Nat) (S4 : Option Addr) (m4 k4 : Nat) (S5 : Option Addr) (m5 k5 : Nat) (S6 : Option Addr) (m6 k6 : Nat) (S7 : Option Addr) (m7 k7 : Nat) (S8 : Option Addr) (m8 k8 : Nat) (S9 : Option Addr) (m9 k9 : Nat) (S10 : Option Addr) (m10 k10 : Nat) (loc : Int) (m : Int) (s : List UInt8) (A : Option Addr) (n c : Nat) (A1 : Option Addr) (n1 c1 : Nat) (A2 : Option Addr) (n2 c2 : Nat) (hm1 : (m1 : Int) ≤ 9223372036854775807) (hm2 : (m2 : Int) ≤ 9223372036854775807) (hm3 : (m3 : Int) ≤ 9223372036854775807) (hm8 : (m8 : Int) ≤ 9223372036854775807) (w : World) : Calls Try.prog 63 #[.agg #[.int .i64 t1, .int .i64 t2, .int .i64 t3, .int .i64 t4, .slice S1 m1 k1, .int .i64 fl, .slice S2 m2 k2, .slice S3 m3 k3, .slice S4 m4 k4, .slice S5 m5 k5, .slice S6 m6 k6, .slice S7 m7 k7, .slice S8 m8 k8, .slice S9 m9 k9, .slice S10 m10 k10, .int .i64 loc], .agg #[.int .i64 19, .int .i64 m, .string (bs s), .slice A n c, .slice A1 n1 c1, .slice A2 n2 c2]] w fun f w' => f = .returned (.bool (true)) ∧ Below w.heap.size w w' := by
  go_enter Try.func63, Try.ntmps63
  go_wp2_with fail
  go_ret
  exact ⟨rfl, ((Below.refl _ _).alloc (Nat.le_refl _) _).alloc (by simp) _⟩

set_option maxRecDepth 100000 in
set_option maxHeartbeats 1600000 in
theorem bkS_20 (t1 t2 t3 t4 : Int) (S1 : Option Addr) (m1 k1 : Nat) (fl : Int) (S2 : Option Addr) (m2 k2 : Nat) (S3 : Option Addr) (m3 k3 : Nat) (S4 : Option Addr) (m4 k4 : Nat) (S5 : Option Addr) (m5 k5 : Nat) (S6 : Option Addr) (m6 k6 : Nat) (S7 : Option Addr) (m7 k7 : Nat) (S8 : Option Addr) (m8 k8 : Nat) (S9 : Option Addr) (m9 k9 : Nat) (S10 : Option Addr) (m10 k10 : Nat) (loc : Int) (m : Int) (s : List UInt8) (A : Option Addr) (n c : Nat) (A1 : Option Addr) (n1 c1 : Nat) (A2 : Option Addr) (n2 c2 : Nat) (hm1 : (m1 : Int) ≤ 9223372036854775807) (hm2 : (m2 : Int) ≤ 9223372036854775807) (hm3 : (m3 : Int) ≤ 9223372036854775807) (hm8 : (m8 : Int) ≤ 9223372036854775807) (w : World) : Calls Try.prog 63 #[.agg #[.int .i64 t1, .int .i64 t2, .int .i64 t3, .int .i64 t4, .slice S1 m1 k1, .int .i64 fl, .slice S2 m2 k2, .slice S3 m3 k3, .slice S4 m4 k4, .slice S5 m5 k5, .slice S6 m6 k6, .slice S7 m7 k7, .slice S8 m8 k8, .slice S9 m9 k9, .slice S10 m10 k10, .int .i64 loc], .agg #[.int .i64 20, .int .i64 m, .string (bs s), .slice A n c, .slice A1 n1 c1, .slice A2 n2 c2]] w fun f w' => f = .returned (.bool (true)) ∧ Below w.heap.size w w' := by
  go_enter Try.func63, Try.ntmps63
  go_wp2_with fail
  go_ret
  exact ⟨rfl, ((Below.refl _ _).alloc (Nat.le_refl _) _).alloc (by simp) _⟩

set_option maxRecDepth 100000 in
set_option maxHeartbeats 1600000 in
theorem bkS_21 (t1 t2 t3 t4 : Int) (S1 : Option Addr) (m1 k1 : Nat) (fl : Int) (S2 : Option Addr) (m2 k2 : Nat) (S3 : Option Addr) (m3 k3 : Nat) (S4 : Option Addr) (m4 k4 : Nat) (S5 : Option Addr) (m5 k5 : Nat) (S6 : Option Addr) (m6 k6 : Nat) (S7 : Option Addr) (m7 k7 : Nat) (S8 : Option Addr) (m8 k8 : Nat) (S9 : Option Addr) (m9 k9 : Nat) (S10 : Option Addr) (m10 k10 : Nat) (loc : Int) (m : Int) (s : List UInt8) (A : Option Addr) (n c : Nat) (A1 : Option Addr) (n1 c1 : Nat) (A2 : Option Addr) (n2 c2 : Nat) (hm1 : (m1 : Int) ≤ 9223372036854775807) (hm2 : (m2 : Int) ≤ 9223372036854775807) (hm3 : (m3 : Int) ≤ 9223372036854775807) (hm8 : (m8 : Int) ≤ 9223372036854775807) (w : World) : Calls Try.prog 63 #[.agg #[.int .i64 t1, .int .i64 t2, .int .i64 t3, .int .i64 t4, .slice S1 m1 k1, .int .i64 fl, .slice S2 m2 k2, .slice S3 m3 k3, .slice S4 m4 k4, .slice S5 m5 k5, .slice S6 m6 k6, .slice S7 m7 k7, .slice S8 m8 k8, .slice S9 m9 k9, .slice S10 m10 k10, .int .i64 loc], .agg #[.int .i64 21, .int .i64 m, .string (bs s), .slice A n c, .slice A1 n1 c1, .slice A2 n2 c2]] w fun f w' => f = .returned (.bool (true)) ∧ Below w.heap.size w w' := by
  go_enter Try.func63, Try.ntmps63
  go_wp2_with fail
  go_ret
  exact ⟨rfl, ((Below.refl _ _).alloc (Nat.le_refl _) _).alloc (by simp) _⟩

set_option maxRecDepth 100000 in
set_option maxHeartbeats 1600000 in
theorem bkS_22 (t1 t2 t3 t4 : Int) (S1 : Option Addr) (m1 k1 : Nat) (fl : Int) (S2 : Option Addr) (m2 k2 : Nat) (S3 : Option Addr) (m3 k3 : Nat) (S4 : Option Addr) (m4 k4 : Nat) (S5 : Option Addr) (m5 k5 : Nat) (S6 : Option Addr) (m6 k6 : Nat) (S7 : Option Addr) (m7 k7 : Nat) (S8 : Option Addr) (m8 k8 : Nat) (S9 : Option Addr) (m9 k9 : Nat) (S10 : Option Addr) (m10 k10 : Nat) (loc : Int) (m : Int) (s : List UInt8) (A : Option Addr) (n c : Nat) (A1 : Option Addr) (n1 c1 : Nat) (A2 : Option Addr) (n2 c2 : Nat) (hm1 : (m1 : Int) ≤ 9223372036854775807) (hm2 : (m2 : Int) ≤ 9223372036854775807) (hm3 : (m3 : Int) ≤ 9223372036854775807) (hm8 : (m8 : Int) ≤ 9223372036854775807) (w : World) : Calls Try.prog 63 #[.agg #[.int .i64 t1, .int .i64 t2, .int .i64 t3, .int .i64 t4, .slice S1 m1 k1, .int .i64 fl, .slice S2 m2 k2, .slice S3 m3 k3, .slice S4 m4 k4, .slice S5 m5 k5, .slice S6 m6 k6, .slice S7 m7 k7, .slice S8 m8 k8, .slice S9 m9 k9, .slice S10 m10 k10, .int .i64 loc], .agg #[.int .i64 22, .int .i64 m, .string (bs s), .slice A n c, .slice A1 n1 c1, .slice A2 n2 c2]] w fun f w' => f = .returned (.bool (true)) ∧ Below w.heap.size w w' := by
  go_enter Try.func63, Try.ntmps63
  go_wp2_with fail
  go_ret
  exact ⟨rfl, ((Below.refl _ _).alloc (Nat.le_refl _) _).alloc (by simp) _⟩

set_option maxRecDepth 100000 in
set_option maxHeartbeats 1600000 in
theorem bkS_23 (t1 t2 t3 t4 : Int) (S1 : Option Addr) (m1 k1 : Nat) (fl : Int) (S2 : Option Addr) (m2 k2 : Nat) (S3 : Option Addr) (m3 k3 : Nat) (S4 : Option Addr) (m4 k4 : Nat) (S5 : Option Addr) (m5 k5 : Nat) (S6 : Option Addr) (m6 k6 : Nat) (S7 : Option Addr) (m7 k7 : Nat) (S8 : Option Addr) (m8 k8 : Nat) (S9 : Option Addr) (m9 k9 : Nat) (S10 : Option Addr) (m10 k10 : Nat) (loc : Int) (m : Int) (s : List UInt8) (A : Option Addr) (n c : Nat) (A1 : Option Addr) (n1 c1 : Nat) (A2 : Option Addr) (n2 c2 : Nat) (hm1 : (m1 : Int) ≤ 9223372036854775807) (hm2 : (m2 : Int) ≤ 9223372036854775807) (hm3 : (m3 : Int) ≤ 9223372036854775807) (hm8 : (m8 : Int) ≤ 9223372036854775807) (w : World) : Calls Try.prog 63 #[.agg #[.int .i64 t1, .int .i64 t2, .int .i64 t3, .int .i64 t4, .slice S1 m1 k1, .int .i64 fl, .slice S2 m2 k2, .slice S3 m3 k3, .slice S4 m4 k4, .slice S5 m5 k5, .slice S6 m6 k6, .slice S7 m7 k7, .slice S8 m8 k8, .slice S9 m9 k9, .slice S10 m10 k10, .int .i64 loc], .agg #[.int .i64 23, .int .i64 m, .string (bs s), .slice A n c, .slice A1 n1 c1, .slice A2 n2 c2]] w fun f w' => f = .returned (.bool (idxB m m3)) ∧ Below w.heap.size w w' := by
  go_enter Try.func63, Try.ntmps63
  go_wp2_with fail
  refine (tisIndex_any _ _ _).mono ?_
  rintro f w2 ⟨rfl, rfl⟩
  go_wp2_with fail
  go_ret
  exact ⟨rfl, ((Below.refl _ _).alloc (Nat.le_refl _) _).alloc (by simp) _⟩

set_option maxRecDepth 100000 in
set_option maxHeartbeats 1600000 in
theorem bkS_0 (k : Int) (h1 : k ≠ 1) (h2 : k ≠ 2) (h3 : k ≠ 3) (h4 : k ≠ 4) (h5 : k ≠ 5) (h6 : k ≠ 6) (h7 : k ≠ 7) (h8 : k ≠ 8) (h9 : k ≠ 9) (h10 : k ≠ 10) (h11 : k ≠ 11) (h12 : k ≠ 12) (h13 : k ≠ 13) (h14 : k ≠ 14) (h15 : k ≠ 15) (h16 : k ≠ 16) (h17 : k ≠ 17) (h18 : k ≠ 18) (h19 : k ≠ 19) (h20 : k ≠ 20) (h21 : k ≠ 21) (h22 : k ≠ 22) (h23 : k ≠ 23) (t1 t2 t3 t4 : Int) (S1 : Option Addr) (m1 k1 : Nat) (fl : Int) (S2 : Option Addr) (m2 k2 : Nat) (S3 : Option Addr) (m3 k3 : Nat) (S4 : Option Addr) (m4 k4 : Nat) (S5 : Option Addr) (m5 k5 : Nat) (S6 : Option Addr) (m6 k6 : Nat) (S7 : Option Addr) (m7 k7 : Nat) (S8 : Option Addr) (m8 k8 : Nat) (S9 : Option Addr) (m9 k9 : Nat) (S10 : Option Addr) (m10 k10 : Nat) (loc : Int) (m : Int) (s : List UInt8) (A : Option Addr) (n c : Nat) (A1 : Option Addr) (n1 c1 : Nat) (A2 : Option Addr) (n2 c2 : Nat) (hm1 : (m1 : Int) ≤ 9223372036854775807) (hm2 : (m2 : Int) ≤ 9223372036854775807) (hm3 : (m3 : Int) ≤ 9223372036854775807) (hm8 : (m8 : Int) ≤ 9223372036854775807) (w : World) : Calls Try.prog 63 #[.agg #[.int .i64 t1, .int .i64 t2, .int .i64 t3, .int .i64 t4, .slice S1 m1 k1, .int .i64 fl, .slice S2 m2 k2, .slice S3 m3 k3, .slice S4 m4 k4, .slice S5 m5 k5, .slice S6 m6 k6, .slice S7 m7 k7, .slice S8 m8 k8, .slice S9 m9 k9, .slice S10 m10 k10, .int .i64 loc], .agg #[.int .i64 k, .int .i64 m, .string (bs s), .slice A n c, .slice A1 n1 c1, .slice A2 n2 c2]] w fun f w' => f = .returned (.bool (false)) ∧ Below w.heap.size w w' := by
  have t1e : (k == 1) = false := by rw [beq_eq_false_iff_ne]; exact h1
  have t2e : (k == 2) = false := by rw [beq_eq_false_iff_ne]; exact h2
  have t3e : (k == 3) = false := by rw [beq_eq_false_iff_ne]; exact h3
  have t4e : (k == 4) = false := by rw [beq_eq_false_iff_ne]; exact h4
  have t5e : (k == 5) = false := by rw [beq_eq_false_iff_ne]; exact h5
  have t6e : (k == 6) = false := by rw [beq_eq_false_iff_ne]; exact h6
  have t7e : (k == 7) = false := by rw [beq_eq_false_iff_ne]; exact h7
  have t8e : (k == 8) = false := by rw [beq_eq_false_iff_ne]; exact h8
  have t9e : (k == 9) = false := by rw [beq_eq_false_iff_ne]; exact h9
  have t10e : (k == 10) = false := by rw [beq_eq_false_iff_ne]; exact h10
  have t11e : (k == 11) = false := by rw [beq_eq_false_iff_ne]; exact h11
  have t12e : (k == 12) = false := by rw [beq_eq_false_iff_ne]; exact h12
  have t13e : (k == 13) = false := by rw [beq_eq_false_iff_ne]; exact h13
  have t14e : (k == 14) = false := by rw [beq_eq_false_iff_ne]; exact h14
  have t15e : (k == 15) = false := by rw [beq_eq_false_iff_ne]; exact h15
  have t16e : (k == 16) = false := by rw [beq_eq_false_iff_ne]; exact h16
  have t17e : (k == 17) = false := by rw [beq_eq_false_iff_ne]; exact h17
  have t18e : (k == 18) = false := by rw [beq_eq_false_iff_ne]; exact h18
  have t19e : (k == 19) = false := by rw [beq_eq_false_iff_ne]; exact h19
  have t20e : (k == 20) = false := by rw [beq_eq_false_iff_ne]; exact h20
  have t21e : (k == 21) = false := by rw [beq_eq_false_iff_ne]; exact h21
  have t22e : (k == 22) = false := by rw [beq_eq_false_iff_ne]; exact h22
  have t23e : (k == 23) = false := by rw [beq_eq_false_iff_ne]; exact h23
  clear h1 h2 h3 h4 h5 h6 h7 h8 h9 h10 h11 h12 h13 h14 h15 h16 h17 h18 h19 h20 h21 h22 h23
  go_enter Try.func63, Try.ntmps63
  go_wp2_with fail
  go_ret
  exact ⟨rfl, ((Below.refl _ _).alloc (Nat.le_refl _) _).alloc (by simp) _⟩

theorem thasStmt_any (T : TV) (loc : Int) (hloc : loc ≤ 9223372036854775807) (e : SL) (w : World) (hT : T.In w w.heap.size) : Calls Try.prog 63 #[T.rt loc, sVal e] w fun f w' => f = .returned (.bool (bkS T.tb loc e)) ∧ Below w.heap.size w w' := by
  obtain ⟨k, m, s, A, n, c, es, A1, n1, c1, bo, A2, n2, c2, el⟩ := e
  obtain ⟨t1, t2, t3, t4, S1, m1, k1, fl, S2, m2, k2, S3, m3, k3, S4, m4, k4, S5, m5, k5, S6, m6, k6, S7, m7, k7, S8, m8, k8, S9, m9, k9, S10, m10, k10, fs, ps⟩ := T
  obtain ⟨⟨hm1, hm2, hm3, hm7, hm8, hm9⟩, hf, hp⟩ := hT
  by_cases h1 : k = 1
  · subst h1
    exact bkS_1 t1 t2 t3 t4 S1 m1 k1 fl S2 m2 k2 S3 m3 k3 S4 m4 k4 S5 m5 k5 S6 m6 k6 S7 m7 k7 S8 m8 k8 S9 m9 k9 S10 m10 k10 loc m s A n c A1 n1 c1 A2 n2 c2 hm1 hm2 hm3 hm8 w
  by_cases h2 : k = 2
  · subst h2
    exact bkS_2 t1 t2 t3 t4 S1 m1 k1 fl S2 m2 k2 S3 m3 k3 S4 m4 k4 S5 m5 k5 S6 m6 k6 S7 m7 k7 S8 m8 k8 S9 m9 k9 S10 m10 k10 loc m s A n c A1 n1 c1 A2 n2 c2 hm1 hm2 hm3 hm8 w
  by_cases h3 : k = 3
  · subst h3
    exact bkS_3 t1 t2 t3 t4 S1 m1 k1 fl S2 m2 k2 S3 m3 k3 S4 m4 k4 S5 m5 k5 S6 m6 k6 S7 m7 k7 S8 m8 k8 S9 m9 k9 S10 m10 k10 loc m s A n c A1 n1 c1 A2 n2 c2 hm1 hm2 hm3 hm8 w
  by_cases h4 : k = 4
  · subst h4
    exact bkS_4 t1 t2 t3 t4 S1 m1 k1 fl S2 m2 k2 S3 m3 k3 S4 m4 k4 S5 m5 k5 S6 m6 k6 S7 m7 k7 S8 m8 k8 S9 m9 k9 S10 m10 k10 loc m s A n c A1 n1 c1 A2 n2 c2 hm1 hm2 hm3 hm8 w
  by_cases h5 : k = 5
  · subst h5
    exact bkS_5 t1 t2 t3 t4 S1 m1 k1 fl S2 m2 k2 S3 m3 k3 S4 m4 k4 S5 m5 k5 S6 m6 k6 S7 m7 k7 S8 m8 k8 S9 m9 k9 S10 m10 k10 loc m s A n c A1 n1 c1 A2 n2 c2 hm1 hm2 hm3 hm8 w
  by_cases h6 : k = 6
  · subst h6
    exact bkS_6 t1 t2 t3 t4 S1 m1 k1 fl S2 m2 k2 S3 m3 k3 S4 m4 k4 S5 m5 k5 S6 m6 k6 S7 m7 k7 S8 m8 k8 S9 m9 k9 S10 m10 k10 loc m s A n c A1 n1 c1 A2 n2 c2 hm1 hm2 hm3 hm8 w
  by_cases h7 : k = 7
  · subst h7
    exact bkS_7 t1 t2 t3 t4 S1 m1 k1 fl S2 m2 k2 S3 m3 k3 S4 m4 k4 S5 m5 k5 S6 m6 k6 S7 m7 k7 S8 m8 k8 S9 m9 k9 S10 m10 k10 loc m s A n c A1 n1 c1 A2 n2 c2 hm1 hm2 hm3 hm8 w
  by_cases h8 : k = 8
  · subst h8
    exact bkS_8 t1 t2 t3 t4 S1 m1 k1 fl S2 m2 k2 S3 m3 k3 S4 m4 k4 S5 m5 k5 S6 m6 k6 S7 m7 k7 S8 m8 k8 S9 m9 k9 S10 m10 k10 loc m s A n c A1 n1 c1 A2 n2 c2 hm1 hm2 hm3 hm8 w
  by_cases h9 : k = 9
  · subst h9
    exact bkS_9 t1 t2 t3 t4 S1 m1 k1 fl S2 m2 k2 S3 m3 k3 S4 m4 k4 S5 m5 k5 S6 m6 k6 S7 m7 k7 S8 m8 k8 S9 m9 k9 S10 m10 k10 loc m s A n c A1 n1 c1 A2 n2 c2 hm1 hm2 hm3 hm8 w
  by_cases h10 : k = 10
  · subst h10
    exact bkS_10 t1 t2 t3 t4 S1 m1 k1 fl S2 m2 k2 S3 m3 k3 S4 m4 k4 S5 m5 k5 S6 m6 k6 S7 m7 k7 S8 m8 k8 S9 m9 k9 S10 m10 k10 loc m s A n c A1 n1 c1 A2 n2 c2 hm1 hm2 hm3 hm8 w
  by_cases h11 : k = 11
  · subst h11
    exact bkS_11 t1 t2 t3 t4 S1 m1 k1 fl S2 m2 k2 S3 m3 k3 S4 m4 k4 S5 m5 k5 S6 m6 k6 S7 m7 k7 S8 m8 k8 S9 m9 k9 S10 m10 k10 loc m s A n c A1 n1 c1 A2 n2 c2 hm1 hm2 hm3 hm8 hloc w
  by_cases h12 : k = 12
  · subst h12
    exact bkS_12 t1 t2 t3 t4 S1 m1 k1 fl S2 m2 k2 S3 m3 k3 S4 m4 k4 S5 m5 k5 S6 m6 k6 S7 m7 k7 S8 m8 k8 S9 m9 k9 S10 m10 k10 loc m s A n c A1 n1 c1 A2 n2 c2 hm1 hm2 hm3 hm8 w
  by_cases h13 : k = 13
  · subst h13
    exact bkS_13 t1 t2 t3 t4 S1 m1 k1 fl S2 m2 k2 S3 m3 k3 S4 m4 k4 S5 m5 k5 S6 m6 k6 S7 m7 k7 S8 m8 k8 S9 m9 k9 S10 m10 k10 loc m s A n c A1 n1 c1 A2 n2 c2 hm1 hm2 hm3 hm8 w
  by_cases h14 : k = 14
  · subst h14
    exact bkS_14 t1 t2 t3 t4 S1 m1 k1 fl S2 m2 k2 S3 m3 k3 S4 m4 k4 S5 m5 k5 S6 m6 k6 S7 m7 k7 S8 m8 k8 S9 m9 k9 S10 m10 k10 loc m s A n c A1 n1 c1 A2 n2 c2 hm1 hm2 hm3 hm8 w
  by_cases h15 : k = 15
  · subst h15
    exact bkS_15 t1 t2 t3 t4 S1 m1 k1 fl S2 m2 k2 S3 m3 k3 S4 m4 k4 S5 m5 k5 S6 m6 k6 S7 m7 k7 S8 m8 k8 S9 m9 k9 S10 m10 k10 loc m s A n c A1 n1 c1 A2 n2 c2 hm1 hm2 hm3 hm8 w
  by_cases h16 : k = 16
  · subst h16
    exact bkS_16 t1 t2 t3 t4 S1 m1 k1 fl S2 m2 k2 S3 m3 k3 S4 m4 k4 S5 m5 k5 S6 m6 k6 S7 m7 k7 S8 m8 k8 S9 m9 k9 S10 m10 k10 loc m s A n c A1 n1 c1 A2 n2 c2 hm1 hm2 hm3 hm8 w
  by_cases h17 : k = 17
  · subst h17
    exact bkS_17 t1 t2 t3 t4 S1 m1 k1 fl S2 m2 k2 S3 m3 k3 S4 m4 k4 S5 m5 k5 S6 m6 k6 S7 m7 k7 S8 m8 k8 S9 m9 k9 S10 m10 k10 loc m s A n c A1 n1 c1 A2 n2 c2 hm1 hm2 hm3 hm8 w
  by_cases h18 : k = 18
  · subst h18
    exact bkS_18 t1 t2 t3 t4 S1 m1 k1 fl S2 m2 k2 S3 m3 k3 S4 m4 k4 S5 m5 k5 S6 m6 k6 S7 m7 k7 S8 m8 k8 S9 m9 k9 S10 m10 k10 loc m s A n c A1 n1 c1 A2 n2 c2 hm1 hm2 hm3 hm8 w
  by_cases h19 : k = 19
  · subst h19
    exact bkS_19 t1 t2 t3 t4 S1 m1 k1 fl S2 m2 k2 S3 m3 k3 S4 m4 k4 S5 m5 k5 S6 m6 k6 S7 m7 k7 S8 m8 k8 S9 m9 k9 S10 m10 k10 loc m s A n c A1 n1 c1 A2 n2 c2 hm1 hm2 hm3 hm8 w
  by_cases h20 : k = 20
  · subst h20
    exact bkS_20 t1 t2 t3 t4 S1 m1 k1 fl S2 m2 k2 S3 m3 k3 S4 m4 k4 S5 m5 k5 S6 m6 k6 S7 m7 k7 S8 m8 k8 S9 m9 k9 S10 m10 k10 loc m s A n c A1 n1 c1 A2 n2 c2 hm1 hm2 hm3 hm8 w
  by_cases h21 : k = 21
  · subst h21
    exact bkS_21 t1 t2 t3 t4 S1 m1 k1 fl S2 m2 k2 S3 m3 k3 S4 m4 k4 S5 m5 k5 S6 m6 k6 S7 m7 k7 S8 m8 k8 S9 m9 k9 S10 m10 k10 loc m s A n c A1 n1 c1 A2 n2 c2 hm1 hm2 hm3 hm8 w
  by_cases h22 : k = 22
  · subst h22
    exact bkS_22 t1 t2 t3 t4 S1 m1 k1 fl S2 m2 k2 S3 m3 k3 S4 m4 k4 S5 m5 k5 S6 m6 k6 S7 m7 k7 S8 m8 k8 S9 m9 k9 S10 m10 k10 loc m s A n c A1 n1 c1 A2 n2 c2 hm1 hm2 hm3 hm8 w
  by_cases h23 : k = 23
  · subst h23
    exact bkS_23 t1 t2 t3 t4 S1 m1 k1 fl S2 m2 k2 S3 m3 k3 S4 m4 k4 S5 m5 k5 S6 m6 k6 S7 m7 k7 S8 m8 k8 S9 m9 k9 S10 m10 k10 loc m s A n c A1 n1 c1 A2 n2 c2 hm1 hm2 hm3 hm8 w
  have e : bkS (TB.mk m1 fl m2 m3 m8 fs ps) loc (SL.mk k m s A n c es A1 n1 c1 bo A2 n2 c2 el) = false := by
    unfold bkS
    simp only [SL.kind, h1, h2, h3, h4, h5, h6, h7, h8, h9, h10, h11, h12, h13, h14, h15, h16, h17, h18, h19, h20, h21, h22, h23, or_self, if_false, decide_false]
  change Calls Try.prog _ _ w fun f w' => f = .returned (.bool (bkS (TB.mk m1 fl m2 m3 m8 fs ps) loc (SL.mk k m s A n c es A1 n1 c1 bo A2 n2 c2 el))) ∧ Below w.heap.size w w'
  rw [e]
  exact bkS_0 k h1 h2 h3 h4 h5 h6 h7 h8 h9 h10 h11 h12 h13 h14 h15 h16 h17 h18 h19 h20 h21 h22 h23 t1 t2 t3 t4 S1 m1 k1 fl S2 m2 k2 S3 m3 k3 S4 m4 k4 S5 m5 k5 S6 m6 k6 S7 m7 k7 S8 m8 k8 S9 m9 k9 S10 m10 k10 loc m s A n c A1 n1 c1 A2 n2 c2 hm1 hm2 hm3 hm8 w

set_option maxRecDepth 100000 in
set_option maxHeartbeats 1600000 in
theorem tbkName_any (s : SL) (w : World) : Calls Try.prog 61 #[sVal s] w fun f w' => f = .returned (lbV s.num []) ∧ Below w.heap.size w w' := by
  obtain ⟨k, m, s, A, n, c, es, A1, n1, c1, bo, A2, n2, c2, el⟩ := s
  show Calls Try.prog _ #[.agg #[.int .i64 k, .int .i64 m, .string (bs s), .slice A n c, .slice A1 n1 c1, .slice A2 n2 c2]] w fun f w' => f = .returned (lbV m []) ∧ Below w.heap.size w w'
  go_enter Try.func61, Try.ntmps61
  go_wp2_with fail
  (try simp only [Exit.inBlock, Exit.then]); refine bodyPost_ret (results_cell_row rfl _ _ _ _ _ _ _ rfl (Blk.new_at _ 50 _ (w.heap.size + 1) (by simp)) Try.underlying50 rfl (by kernel_rfl)) rfl ?_
  exact ⟨rfl, ((Below.refl _ _).alloc (Nat.le_refl _) _).alloc (by simp) _⟩

/-- the language of a book -/
def bookG (T : TV) (loc : Int) : LG := ⟨19, 18, 61, 62, 63, #[T.rt loc]⟩

theorem bookG_ok (T : TV) (loc : Int) (hloc : loc ≤ 9223372036854775807) (w : World) (hT : T.In w w.heap.size) : LGok w (bookG T loc) (bkE T.tb loc) (bkS T.tb loc) (fun s => (s.num, [])) where
  eN := ⟨_, Try.func61, by kernel_rfl, by kernel_rfl⟩
  eE := ⟨_, Try.func62, by kernel_rfl, by kernel_rfl⟩
  eS := ⟨_, Try.func63, by kernel_rfl, by kernel_rfl⟩
  hN := fun s W _ _ => tbkName_any s W
  hE := fun e W hb hin => by
    rw [show (bookG T loc).F ++ #[eVal e] = #[T.rt loc, eVal e] from by simp [bookG]]
    exact thasExpr_any T loc e W ((hT.below hb).more hb.size) hin
  hS := fun s W hb hin => by
    rw [show (bookG T loc).F ++ #[sVal s] = #[T.rt loc, sVal s] from by simp [bookG]]
    exact thasStmt_any T loc hloc s W ((hT.below hb).more hb.size)

theorem rt_one (T : TV) (loc : Int) : (T.rcells loc).all (·.oneCell') = true := by simp [TV.rcells, Value.oneCell']

set_option maxRecDepth 100000 in
set_option maxHeartbeats 6400000 in
theorem tbookLanguage_any (T : TV) (loc : Int) (w : World) : Calls Try.prog 41 #[T.val, .int .i64 loc] w fun f w' => f = .returned (bookG T loc).val ∧ Below w.heap.size w w' := by
  have hmf : ∀ (fn : Fn) (first cap : Array Value) (w : World), (Instr.makeFunc fn first cap).run Try.prog w = .ok (.func fn first cap) w := fun _ _ _ _ => rfl
  have HONE := Lib.hid (rt_one T loc)
  obtain ⟨t1, t2, t3, t4, S1, m1, k1, fl, S2, m2, k2, S3, m3, k3, S4, m4, k4, S5, m5, k5, S6, m6, k6, S7, m7, k7, S8, m8, k8, S9, m9, k9, S10, m10, k10, fs, ps⟩ := T
  change Hid ((#[.int .i64 t1, .int .i64 t2, .int .i64 t3, .int .i64 t4, .slice S1 m1 k1, .int .i64 fl, .slice S2 m2 k2, .slice S3 m3 k3, .slice S4 m4 k4, .slice S5 m5 k5, .slice S6 m6 k6, .slice S7 m7 k7, .slice S8 m8 k8, .slice S9 m9 k9, .slice S10 m10 k10, .int .i64 loc] : Array Value).all (·.oneCell') = true) at HONE
  show Calls Try.prog _ #[.agg #[.int .i64 t1, .int .i64 t2, .int .i64 t3, .int .i64 t4, .slice S1 m1 k1, .int .i64 fl, .slice S2 m2 k2, .slice S3 m3 k3, .slice S4 m4 k4, .slice S5 m5 k5, .slice S6 m6 k6, .slice S7 m7 k7, .slice S8 m8 k8, .slice S9 m9 k9, .slice S10 m10 k10], .int .i64 loc] w fun f w' => f = .returned (.agg #[.int .i64 19, .int .i64 18, .func (.func 61) #[] #[], .func (.func 62) #[.agg #[.int .i64 t1, .int .i64 t2, .int .i64 t3, .int .i64 t4, .slice S1 m1 k1, .int .i64 fl, .slice S2 m2 k2, .slice S3 m3 k3, .slice S4 m4 k4, .slice S5 m5 k5, .slice S6 m6 k6, .slice S7 m7 k7, .slice S8 m8 k8, .slice S9 m9 k9, .slice S10 m10 k10, .int .i64 loc]] #[], .func (.func 63) #[.agg #[.int .i64 t1, .int .i64 t2, .int .i64 t3, .int .i64 t4, .slice S1 m1 k1, .int .i64 fl, .slice S2 m2 k2, .slice S3 m3 k3, .slice S4 m4 k4, .slice S5 m5 k5, .slice S6 m6 k6, .slice S7 m7 k7, .slice S8 m8 k8, .slice S9 m9 k9, .slice S10 m10 k10, .int .i64 loc]] #[]]) ∧ Below w.heap.size w w'
  obtain ⟨W, hW⟩ : ∃ W, W = ((w.alloc (.cells #[.int .i64 t1, .int .i64 t2, .int .i64 t3, .int .i64 t4, .slice S1 m1 k1, .int .i64 fl, .slice S2 m2 k2, .slice S3 m3 k3, .slice S4 m4 k4, .slice S5 m5 k5, .slice S6 m6 k6, .slice S7 m7 k7, .slice S8 m8 k8, .slice S9 m9 k9, .slice S10 m10 k10] 28)).alloc (.cells #[.int .i64 0, .int .i64 0, .nilFunc, .nilFunc, .nilFunc] 71)) := ⟨_, rfl⟩
  have HBW : Hid (Below w.heap.size w W) := Lib.hid (by rw [hW]; exact ((Below.refl _ _).alloc (Nat.le_refl _) _).alloc (by simp) _)
  have HK : Hid (Blk W w.heap.size 28 #[.int .i64 t1, .int .i64 t2, .int .i64 t3, .int .i64 t4, .slice S1 m1 k1, .int .i64 fl, .slice S2 m2 k2, .slice S3 m3 k3, .slice S4 m4 k4, .slice S5 m5 k5, .slice S6 m6 k6, .slice S7 m7 k7, .slice S8 m8 k8, .slice S9 m9 k9, .slice S10 m10 k10]) := Lib.hid (by rw [hW]; exact (Blk.new _ _ _).alloc _)
  have HL : Hid (Blk W (w.heap.size + 1) 71 #[.int .i64 0, .int .i64 0, .nilFunc, .nilFunc, .nilFunc]) := Lib.hid (by rw [hW]; exact Blk.new_at _ _ _ _ (by simp))
  have HSZ : Hid (w.heap.size + 1 + 1 = W.heap.size) := Lib.hid (by rw [hW]; simp)
  go_enter Try.func41, Try.ntmps41
  go_wp2_with (first
    | (rw [← hW]; clear hW; refine wpList_load_row rfl 28 _ rfl w.heap.size rfl 28 #[.int .i64 t1, .int .i64 t2, .int .i64 t3, .int .i64 t4, .slice S1 m1 k1, .int .i64 fl, .slice S2 m2 k2, .slice S3 m3 k3, .slice S4 m4 k4, .slice S5 m5 k5, .slice S6 m6 k6, .slice S7 m7 k7, .slice S8 m8 k8, .slice S9 m9 k9, .slice S10 m10 k10] (0, 0) _ HK.out Try.underlying28 rfl tabs_size ?_)
    | (refine wpList_store_row rfl 87 _ _ rfl W.heap.size #[.int .i64 t1, .int .i64 t2, .int .i64 t3, .int .i64 t4, .slice S1 m1 k1, .int .i64 fl, .slice S2 m2 k2, .slice S3 m3 k3, .slice S4 m4 k4, .slice S5 m5 k5, .slice S6 m6 k6, .slice S7 m7 k7, .slice S8 m8 k8, .slice S9 m9 k9, .slice S10 m10 k10, .int .i64 loc] rfl rfl _ _ (Blk.new W _ _) rt_size rfl HONE.out ?_; obtain ⟨V, hV⟩ : ∃ V0, V0 = (W.alloc (.cells #[.int .i64 0, .int .i64 0, .int .i64 0, .int .i64 0, .slice none 0 0, .int .i64 0, .slice none 0 0, .slice none 0 0, .slice none 0 0, .slice none 0 0, .slice none 0 0, .slice none 0 0, .slice none 0 0, .slice none 0 0, .slice none 0 0, .int .i64 0] 87)).setRow W.heap.size #[.int .i64 t1, .int .i64 t2, .int .i64 t3, .int .i64 t4, .slice S1 m1 k1, .int .i64 fl, .slice S2 m2 k2, .slice S3 m3 k3, .slice S4 m4 k4, .slice S5 m5 k5, .slice S6 m6 k6, .slice S7 m7 k7, .slice S8 m8 k8, .slice S9 m9 k9, .slice S10 m10 k10, .int .i64 loc] := ⟨_, rfl⟩; rw [← hV]; obtain ⟨hkV, hbV⟩ := put_row hV; have HKV := Lib.hid hkV; have HBV := Lib.hid hbV; have HLV := Lib.hid (HL.out.below HBV.out HL.out.lt); clear hV hkV hbV)
    | (refine wpList_load_row rfl 87 _ rfl W.heap.size rfl 87 #[.int .i64 t1, .int .i64 t2, .int .i64 t3, .int .i64 t4, .slice S1 m1 k1, .int .i64 fl, .slice S2 m2 k2, .slice S3 m3 k3, .slice S4 m4 k4, .slice S5 m5 k5, .slice S6 m6 k6, .slice S7 m7 k7, .slice S8 m8 k8, .slice S9 m9 k9, .slice S10 m10 k10, .int .i64 loc] (0, 0) _ HKV.out Try.underlying87 rfl rt_size ?_)
    | (refine wpList_store_row rfl 71 _ _ rfl (w.heap.size + 1) #[.int .i64 19, .int .i64 18, .func (.func 61) #[] #[], .func (.func 62) #[.agg #[.int .i64 t1, .int .i64 t2, .int .i64 t3, .int .i64 t4, .slice S1 m1 k1, .int .i64 fl, .slice S2 m2 k2, .slice S3 m3 k3, .slice S4 m4 k4, .slice S5 m5 k5, .slice S6 m6 k6, .slice S7 m7 k7, .slice S8 m8 k8, .slice S9 m9 k9, .slice S10 m10 k10, .int .i64 loc]] #[], .func (.func 63) #[.agg #[.int .i64 t1, .int .i64 t2, .int .i64 t3, .int .i64 t4, .slice S1 m1 k1, .int .i64 fl, .slice S2 m2 k2, .slice S3 m3 k3, .slice S4 m4 k4, .slice S5 m5 k5, .slice S6 m6 k6, .slice S7 m7 k7, .slice S8 m8 k8, .slice S9 m9 k9, .slice S10 m10 k10, .int .i64 loc]] #[]] rfl rfl _ _ HLV.out lg_size rfl (by simp [Value.oneCell']) ?_))
  (try simp only [Exit.inBlock, Exit.then]); refine bodyPost_ret (results_cell_row rfl _ _ _ _ _ _ _ rfl (setRow_heap _ _ _ _ _ _ HLV.out) Try.underlying71 rfl (by kernel_rfl)) rfl ?_
  exact ⟨rfl, below_setRow (HBW.out.trans (HBV.out.mono HBW.out.size)) (by omega) _⟩

set_option maxRecDepth 100000 in
set_option maxHeartbeats 6400000 in
theorem tBound_vE (T : TV) (loc : Int) (hloc : loc ≤ 9223372036854775807) (e : EL) (w : World) (hT : T.In w w.heap.size) (hin : e.In w w.heap.size) : Calls Try.prog 14 #[T.val, eVal e, .int .i64 loc] w fun f w' => f = .returned (.bool (vE (bkE T.tb loc) 19 32 e)) ∧ Below w.heap.size w w' := by
  obtain ⟨q, hq⟩ : ∃ q, q = vE (bkE T.tb loc) 19 32 e := ⟨_, rfl⟩
  obtain ⟨ev, hev⟩ : ∃ v, v = eVal e := ⟨_, rfl⟩
  obtain ⟨gv, hgv⟩ : ∃ v, v = (bookG T loc).val := ⟨_, rfl⟩
  have HC : Hid (∀ W : World, Below w.heap.size w W → Calls Try.prog 42 #[gv, ev, .int .i64 32] W fun f w' => f = .returned (.bool q) ∧ Below W.heap.size W w') := Lib.hid (fun W hb => by
    rw [hq, hev, hgv]
    exact tvalidExpr_any w (bookG T loc) _ _ _ (bookG_ok T loc hloc w hT) 32 (by decide) e W hb (EL.In.more hb.size (hin.below hb)))
  have HL : Hid (∀ W : World, Calls Try.prog 41 #[T.val, .int .i64 loc] W fun f w' => f = .returned gv ∧ Below W.heap.size W w') := Lib.hid (fun W => by rw [hgv]; exact tbookLanguage_any T loc W)
  rw [← hq, ← hev]
  clear hq hin hT hgv
  obtain ⟨k, o, m, s, A, n, c, es⟩ := e
  have hev2 : ev = .agg #[.int .i64 k, .int .i64 o, .int .i64 m, .string (bs s), .slice A n c] := hev
  clear hev
  subst hev2
  obtain ⟨t1, t2, t3, t4, S1, m1, k1, fl, S2, m2, k2, S3, m3, k3, S4, m4, k4, S5, m5, k5, S6, m6, k6, S7, m7, k7, S8, m8, k8, S9, m9, k9, S10, m10, k10, fs, ps⟩ := T
  change Hid (∀ W : World, Calls Try.prog 41 #[.agg #[.int .i64 t1, .int .i64 t2, .int .i64 t3, .int .i64 t4, .slice S1 m1 k1, .int .i64 fl, .slice S2 m2 k2, .slice S3 m3 k3, .slice S4 m4 k4, .slice S5 m5 k5, .slice S6 m6 k6, .slice S7 m7 k7, .slice S8 m8 k8, .slice S9 m9 k9, .slice S10 m10 k10], .int .i64 loc] W fun f w' => f = .returned gv ∧ Below W.heap.size W w') at HL
  show Calls Try.prog _ #[.agg #[.int .i64 t1, .int .i64 t2, .int .i64 t3, .int .i64 t4, .slice S1 m1 k1, .int .i64 fl, .slice S2 m2 k2, .slice S3 m3 k3, .slice S4 m4 k4, .slice S5 m5 k5, .slice S6 m6 k6, .slice S7 m7 k7, .slice S8 m8 k8, .slice S9 m9 k9, .slice S10 m10 k10], .agg #[.int .i64 k, .int .i64 o, .int .i64 m, .string (bs s), .slice A n c], .int .i64 loc] w fun f w' => f = .returned (.bool q) ∧ Below w.heap.size w w'
  obtain ⟨W, hW⟩ : ∃ W, W = ((w.alloc (.cells #[.int .i64 t1, .int .i64 t2, .int .i64 t3, .int .i64 t4, .slice S1 m1 k1, .int .i64 fl, .slice S2 m2 k2, .slice S3 m3 k3, .slice S4 m4 k4, .slice S5 m5 k5, .slice S6 m6 k6, .slice S7 m7 k7, .slice S8 m8 k8, .slice S9 m9 k9, .slice S10 m10 k10] 28)).alloc (.cells #[.int .i64 k, .int .i64 o, .int .i64 m, .string (bs s), .slice A n c] 31)) := ⟨_, rfl⟩
  have HBW : Hid (Below w.heap.size w W) := Lib.hid (by rw [hW]; exact ((Below.refl _ _).alloc (Nat.le_refl _) _).alloc (by simp) _)
  have hct : Hid (∀ u : World, Below W.heap.size W u → u.cell? ⟨w.heap.size, 0, none⟩ = some (.int .i64 t1) ∧ u.cell? ⟨w.heap.size, 1, none⟩ = some (.int .i64 t2) ∧ u.cell? ⟨w.heap.size, 2, none⟩ = some (.int .i64 t3) ∧ u.cell? ⟨w.heap.size, 3, none⟩ = some (.int .i64 t4) ∧ u.cell? ⟨w.heap.size, 4, none⟩ = some (.slice S1 m1 k1) ∧ u.cell? ⟨w.heap.size, 5, none⟩ = some (.int .i64 fl) ∧ u.cell? ⟨w.heap.size, 6, none⟩ = some (.slice S2 m2 k2) ∧ u.cell? ⟨w.heap.size, 7, none⟩ = some (.slice S3 m3 k3) ∧ u.cell? ⟨w.heap.size, 8, none⟩ = some (.slice S4 m4 k4) ∧ u.cell? ⟨w.heap.size, 9, none⟩ = some (.slice S5 m5 k5) ∧ u.cell? ⟨w.heap.size, 10, none⟩ = some (.slice S6 m6 k6) ∧ u.cell? ⟨w.heap.size, 11, none⟩ = some (.slice S7 m7 k7) ∧ u.cell? ⟨w.heap.size, 12, none⟩ = some (.slice S8 m8 k8) ∧ u.cell? ⟨w.heap.size, 13, none⟩ = some (.slice S9 m9 k9) ∧ u.cell? ⟨w.heap.size, 14, none⟩ = some (.slice S10 m10 k10)) := Lib.hid (fun u hb => by
    have hk : Blk W w.heap.size 28 #[.int .i64 t1, .int .i64 t2, .int .i64 t3, .int .i64 t4, .slice S1 m1 k1, .int .i64 fl, .slice S2 m2 k2, .slice S3 m3 k3, .slice S4 m4 k4, .slice S5 m5 k5, .slice S6 m6 k6, .slice S7 m7 k7, .slice S8 m8 k8, .slice S9 m9 k9, .slice S10 m10 k10] := by rw [hW]; exact (Blk.new w _ _).alloc _
    have hk2 := hk.below hb hk.lt
    exact ⟨hk2.cell 0, hk2.cell 1, hk2.cell 2, hk2.cell 3, hk2.cell 4, hk2.cell 5, hk2.cell 6, hk2.cell 7, hk2.cell 8, hk2.cell 9, hk2.cell 10, hk2.cell 11, hk2.cell 12, hk2.cell 13, hk2.cell 14⟩)
  have hce : Hid (∀ u : World, Below W.heap.size W u → u.cell? ⟨w.heap.size + 1, 0, none⟩ = some (.int .i64 k) ∧ u.cell? ⟨w.heap.size + 1, 1, none⟩ = some (.int .i64 o) ∧ u.cell? ⟨w.heap.size + 1, 2, none⟩ = some (.int .i64 m) ∧ u.cell? ⟨w.heap.size + 1, 3, none⟩ = some (.string (bs s)) ∧ u.cell? ⟨w.heap.size + 1, 4, none⟩ = some (.slice A n c)) := Lib.hid (fun u hb => by
    have hk : Blk W (w.heap.size + 1) 31 #[.int .i64 k, .int .i64 o, .int .i64 m, .string (bs s), .slice A n c] := by rw [hW]; exact Blk.new_at _ _ _ _ (by simp)
    have hk2 := hk.below hb hk.lt
    exact ⟨hk2.cell 0, hk2.cell 1, hk2.cell 2, hk2.cell 3, hk2.cell 4⟩)
  go_enter Try.func14, Try.ntmps14
  go_wp2_with fail
  rw [← hW]
  clear hW
  refine wp_region_held_drew (S := Below W.heap.size W) (by kernel_rfl) (Below.refl _ _).drew (fun hHeld => ?_)
  refine held_take (i := 0) (fuel := 5) (v := ?_) (by rw [List.getElem?_toArray]; rfl) (by kernel_rfl) (by kernel_rfl) (by kernel_rfl) hHeld ?_ ?_ ?_ ?_
  rotate_left
  · intro u hSw
    obtain ⟨c0, c1, c2, c3, c4, c5, c6, c7, c8, c9, c10, c11, c12, c13, c14⟩ := hct.out u hSw
    go_simp
    try with_reducible rfl
  · rfl
  · exact fun _ _ _ h => h
  try simp only [Act.put, List.setIfInBounds_toArray, List.set_cons_zero, List.set_cons_succ]
  refine held_take (i := 1) (fuel := 4) (v := ?_) (by rw [List.getElem?_toArray]; rfl) (by kernel_rfl) (by kernel_rfl) (by kernel_rfl) hHeld ?_ ?_ ?_ ?_
  rotate_left
  · intro u hSw
    go_simp
    try with_reducible rfl
  · rfl
  · exact fun _ _ _ h => h
  try simp only [Act.put, List.setIfInBounds_toArray, List.set_cons_zero, List.set_cons_succ]
  refine held_take (i := 3) (fuel := 3) (v := ?_) (by rw [List.getElem?_toArray]; rfl) (by kernel_rfl) (by kernel_rfl) (by kernel_rfl) hHeld ?_ ?_ ?_ ?_
  rotate_left
  · intro u hSw
    obtain ⟨c0, c1, c2, c3, c4⟩ := hce.out u hSw
    go_simp
    try with_reducible rfl
  · rfl
  · exact fun _ _ _ h => h
  try simp only [Act.put, List.setIfInBounds_toArray, List.set_cons_zero, List.set_cons_succ]
  refine held_one (i := 2) (fuel := 2) (by kernel_rfl) (by rw [List.getElem?_toArray]; rfl) (fun K hK => ?_)
  go_simp
  refine (HL.out _).mono ?_
  rintro f w3 ⟨rfl, hb3⟩
  refine hK.out _ _ ?_ (fun hHeld => ?_)
  · exact hHeld.trans (hb3.mono hHeld.size)
  clear hK K
  try simp only [Act.put, List.setIfInBounds_toArray, List.set_cons_zero, List.set_cons_succ]
  refine held_one (i := 4) (fuel := 1) (by kernel_rfl) (by rw [List.getElem?_toArray]; rfl) (fun K hK => ?_)
  go_simp
  refine (HC.out _ (HBW.out.trans (hHeld.mono HBW.out.size))).mono ?_
  rintro f w4 ⟨rfl, hb4⟩
  refine hK.out _ _ ?_ (fun hHeld => ?_)
  · exact hHeld.trans (hb4.mono hHeld.size)
  clear hK K
  try simp only [Act.put, List.setIfInBounds_toArray, List.set_cons_zero, List.set_cons_succ]
  refine held_take (i := 5) (fuel := 0) (v := ?_) (by rw [List.getElem?_toArray]; rfl) (by kernel_rfl) (by kernel_rfl) (by kernel_rfl) hHeld ?_ ?_ ?_ ?_
  rotate_left
  · intro u hSw
    go_simp
    try with_reducible rfl
  · rfl
  · exact fun _ _ _ h => h
  try simp only [Act.put, List.setIfInBounds_toArray, List.set_cons_zero, List.set_cons_succ]
  refine wpAnyH_done (by kernel_rfl) ?_ _
  have HF := Lib.hid (HBW.out.trans (hHeld.mono HBW.out.size))
  go_wp2_with fail
  go_ret
  exact ⟨rfl, HF.out⟩

set_option maxRecDepth 100000 in
set_option maxHeartbeats 6400000 in
theorem tBoundBlock_vB (T : TV) (loc : Int) (hloc : loc ≤ 9223372036854775807) (ss : List SL) (A : Option Addr) (n c : Nat) (w : World) (hT : T.In w w.heap.size) (hA : RowS6 w w.heap.size A n ss) (hAi : SL.Ins w w.heap.size ss) : Calls Try.prog 15 #[T.val, .slice A n c, .int .i64 loc] w fun f w' => f = .returned (.bool (vB (bkE T.tb loc) (bkS T.tb loc) (fun s => (s.num, [])) 19 18 32 ss)) ∧ Below w.heap.size w w' := by
  obtain ⟨q, hq⟩ : ∃ q, q = vB (bkE T.tb loc) (bkS T.tb loc) (fun s => (s.num, [])) 19 18 32 ss := ⟨_, rfl⟩
  obtain ⟨gv, hgv⟩ : ∃ v, v = (bookG T loc).val := ⟨_, rfl⟩
  have HC : Hid (∀ W : World, Below w.heap.size w W → Calls Try.prog 43 #[gv, .slice A n c, .int .i64 32] W fun f w' => f = .returned (.bool q) ∧ Below W.heap.size W w') := Lib.hid (fun W hb => by
    rw [hq, hgv]
    exact tvalid_all w (bookG T loc) _ _ _ (bookG_ok T loc hloc w hT) 32 (by decide) ss A n c W hb ((RowS6.below hA hb).more hb.size) ((SL.Ins.below hAi hb).more hb.size))
  have HL : Hid (∀ W : World, Calls Try.prog 41 #[T.val, .int .i64 loc] W fun f w' => f = .returned gv ∧ Below W.heap.size W w') := Lib.hid (fun W => by rw [hgv]; exact tbookLanguage_any T loc W)
  rw [← hq]
  clear hq hA hAi hT hgv
  obtain ⟨t1, t2, t3, t4, S1, m1, k1, fl, S2, m2, k2, S3, m3, k3, S4, m4, k4, S5, m5, k5, S6, m6, k6, S7, m7, k7, S8, m8, k8, S9, m9, k9, S10, m10, k10, fs, ps⟩ := T
  change Hid (∀ W : World, Calls Try.prog 41 #[.agg #[.int .i64 t1, .int .i64 t2, .int .i64 t3, .int .i64 t4, .slice S1 m1 k1, .int .i64 fl, .slice S2 m2 k2, .slice S3 m3 k3, .slice S4 m4 k4, .slice S5 m5 k5, .slice S6 m6 k6, .slice S7 m7 k7, .slice S8 m8 k8, .slice S9 m9 k9, .slice S10 m10 k10], .int .i64 loc] W fun f w' => f = .returned gv ∧ Below W.heap.size W w') at HL
  show Calls Try.prog _ #[.agg #[.int .i64 t1, .int .i64 t2, .int .i64 t3, .int .i64 t4, .slice S1 m1 k1, .int .i64 fl, .slice S2 m2 k2, .slice S3 m3 k3, .slice S4 m4 k4, .slice S5 m5 k5, .slice S6 m6 k6, .slice S7 m7 k7, .slice S8 m8 k8, .slice S9 m9 k9, .slice S10 m10 k10], .slice A n c, .int .i64 loc] w fun f w' => f = .returned (.bool q) ∧ Below w.heap.size w w'
  obtain ⟨W, hW⟩ : ∃ W, W = (w.alloc (.cells #[.int .i64 t1, .int .i64 t2, .int .i64 t3, .int .i64 t4, .slice S1 m1 k1, .int .i64 fl, .slice S2 m2 k2, .slice S3 m3 k3, .slice S4 m4 k4, .slice S5 m5 k5, .slice S6 m6 k6, .slice S7 m7 k7, .slice S8 m8 k8, .slice S9 m9 k9, .slice S10 m10 k10] 28)) := ⟨_, rfl⟩
  have HBW : Hid (Below w.heap.size w W) := Lib.hid (by rw [hW]; exact (Below.refl _ _).alloc (Nat.le_refl _) _)
  have HK : Hid (Blk W w.heap.size 28 #[.int .i64 t1, .int .i64 t2, .int .i64 t3, .int .i64 t4, .slice S1 m1 k1, .int .i64 fl, .slice S2 m2 k2, .slice S3 m3 k3, .slice S4 m4 k4, .slice S5 m5 k5, .slice S6 m6 k6, .slice S7 m7 k7, .slice S8 m8 k8, .slice S9 m9 k9, .slice S10 m10 k10]) := Lib.hid (by rw [hW]; exact Blk.new _ _ _)
  go_enter Try.func15, Try.ntmps15
  go_wp2_with (rw [← hW]; clear hW; refine wpList_load_row rfl 28 _ rfl w.heap.size rfl 28 #[.int .i64 t1, .int .i64 t2, .int .i64 t3, .int .i64 t4, .slice S1 m1 k1, .int .i64 fl, .slice S2 m2 k2, .slice S3 m3 k3, .slice S4 m4 k4, .slice S5 m5 k5, .slice S6 m6 k6, .slice S7 m7 k7, .slice S8 m8 k8, .slice S9 m9 k9, .slice S10 m10 k10] (0, 0) _ HK.out Try.underlying28 rfl tabs_size ?_)
  refine (HL.out _).mono ?_
  rintro f w1 ⟨rfl, hb1⟩
  have HB1 := Lib.hid (HBW.out.trans (hb1.mono HBW.out.size))
  clear hb1
  go_wp2_with fail
  refine (HC.out w1 HB1.out).mono ?_
  rintro f w2 ⟨rfl, hb2⟩
  go_wp2_with fail
  go_ret
  exact ⟨rfl, HB1.out.trans (hb2.mono HB1.out.size)⟩

end

section
open Go.RowKit
set_option linter.unusedVariables false

theorem dec_max {a b d : Nat} : decide (max a b ≤ d) = (decide (a ≤ d) && decide (b ≤ d)) := by
  rw [Bool.eq_iff_iff, Bool.and_eq_true, decide_eq_true_eq, decide_eq_true_eq, decide_eq_true_eq]
  omega

section
variable {X : EL → Bool} {tx : Int} {ok R : Bool → EL → Bool}

theorem inE_of (h2 : ∀ e, ok false e = (!sayB tx e && ok true e)) (h3 : ∀ said e, R said e = (ok said e && e.args.all (R false))) {d : Nat} {a : EL} (hv : vE X tx d a = (decide (depE a ≤ d) && R true a)) (said : Bool) :
    inE X tx said d a = (decide (depE a ≤ d) && R said a) := by
  unfold inE
  rw [hv]
  cases said with
  | true => rw [Bool.true_or, Bool.true_and]
  | false =>
    rw [Bool.false_or, h3 false a, h3 true a, h2 a]
    cases sayB tx a <;> simp

theorem all_inE (said : Bool) (d : Nat) : ∀ l : List EL, (∀ a ∈ l, inE X tx said d a = (decide (depE a ≤ d) && R said a)) → l.all (inE X tx said d) = (decide (depEs l ≤ d) && l.all (R said)) := by
  intro l
  induction l with
  | nil => intro _; rw [depEs_nil]; simp
  | cons a r ih =>
    intro h
    rw [List.all_cons, List.all_cons, h a (by simp), ih (fun x hx => h x (by simp [hx])), depEs_cons, dec_max]
    cases decide (depE a ≤ d) <;> cases decide (depEs r ≤ d) <;> simp

/-- an expression -/
theorem vE_gen (h1 : ∀ e, e.args.length = e.n → (decide (e.fv = e.form) && X e) = ok true e) (h2 : ∀ e, ok false e = (!sayB tx e && ok true e)) (h3 : ∀ said e, R said e = (ok said e && e.args.all (R false))) {w : World} {B : Nat} :
    ∀ (d : Nat) (e : EL), e.In w B → vE X tx d e = (decide (depE e ≤ d) && R true e) := by
  intro d
  induction d with
  | zero =>
    intro e _
    have := depE_pos e
    rw [decide_eq_false (by omega), Bool.false_and]
    rfl
  | succ d ih =>
    intro e hin
    rw [vE_succ, h1 e hin.row.1, all_inE false d e.args (fun a ha => inE_of h2 h3 (ih a (EL.Ins.mem hin.args a ha)) false), h3 true e, depE_eq]
    have e1 : decide (depEs e.args + 1 ≤ d + 1) = decide (depEs e.args ≤ d) := decide_eq_decide.2 (by omega)
    rw [e1]
    cases ok true e <;> simp

variable {Y : SL → Bool} {lb : SL → Int × List UInt8} {cl : Int} {hd RS : SL → Bool}

theorem depMs_all (d : Nat) : ∀ l : List SL, (∀ s ∈ l, vS X Y lb tx cl d s = (decide (depS s ≤ d) && RS s)) → l.all (vS X Y lb tx cl d) = (decide (depMs l ≤ d) && l.all RS) := by
  intro l
  induction l with
  | nil => intro _; rw [depMs_nil]; simp
  | cons a r ih =>
    intro h
    rw [List.all_cons, List.all_cons, h a (by simp), ih (fun x hx => h x (by simp [hx])), depMs_cons, dec_max]
    cases decide (depS a ≤ d) <;> cases decide (depMs r ≤ d) <;> simp

/-- statements -/
theorem vB_gen (h1 : ∀ e, e.args.length = e.n → (decide (e.fv = e.form) && X e) = ok true e) (h2 : ∀ e, ok false e = (!sayB tx e && ok true e)) (h3 : ∀ said e, R said e = (ok said e && e.args.all (R false)))
    (h4 : ∀ s : SL, s.args.length = s.n → s.body.length = s.n1 → s.els.length = s.n2 → (decide (s.fv = s.form (lb s).1 (lb s).2) && Y s && (decide (s.kind ≠ 19) || decide ((s.args[0]?.getD nilE).kind = cl))) = hd s)
    (h5 : ∀ s : SL, RS s = (hd s && s.args.all (R (decide (s.kind = 1))) && (s.body.all RS && decide (s.body.length ≤ 256)) && (s.els.all RS && decide (s.els.length ≤ 256)))) {w : World} {B : Nat} :
    ∀ (d : Nat) (l : List SL), SL.Ins w B l → vB X Y lb tx cl d l = (decide (depSs l ≤ d) && (l.all RS && decide (l.length ≤ 256))) := by
  have hS : ∀ d : Nat, (∀ l : List SL, SL.Ins w B l → vB X Y lb tx cl d l = (decide (depSs l ≤ d) && (l.all RS && decide (l.length ≤ 256)))) → ∀ s : SL, s.In w B → vS X Y lb tx cl d s = (decide (depS s ≤ d) && RS s) := by
    intro d hB s hin
    obtain ⟨hp, hi1, hi2⟩ := hin.parts
    have hg := h4 s hp.2.2.1.1.1 hp.2.2.2.1.1 hp.2.2.2.2.1
    have ha := all_inE (decide (s.kind = 1)) d s.args (fun a ha => inE_of h2 h3 (vE_gen h1 h2 h3 d a (EL.Ins.mem hp.2.2.1.2 a ha)) (decide (s.kind = 1)))
    rw [vS_eq, hB _ hi1, hB _ hi2, h5 s, depS_eq, dec_max, dec_max]
    unfold hdS
    rw [ha, ← hg]
    generalize decide (s.fv = s.form (lb s).1 (lb s).2) = b1
    generalize Y s = b2
    generalize decide (depEs s.args ≤ d) = b3
    generalize s.args.all (R (decide (s.kind = 1))) = b4
    generalize (decide (s.kind ≠ 19) || decide ((s.args[0]?.getD nilE).kind = cl)) = b5
    generalize decide (depSs s.body ≤ d) = b6
    generalize (s.body.all RS && decide (s.body.length ≤ 256)) = b7
    generalize decide (depSs s.els ≤ d) = b8
    generalize (s.els.all RS && decide (s.els.length ≤ 256)) = b9
    cases b1 <;> cases b2 <;> cases b3 <;> cases b4 <;> cases b5 <;> cases b6 <;> cases b7 <;> cases b8 <;> rfl
  intro d
  induction d with
  | zero =>
    intro l _
    show l.isEmpty = _
    cases l with
    | nil => rw [depSs_nil]; simp
    | cons x r =>
      have : 1 ≤ depSs (x :: r) := by rw [depSs_cons]; omega
      rw [decide_eq_false (by omega), Bool.false_and]
      rfl
  | succ d ih =>
    intro l hins
    show (l.isEmpty || (decide (l.length ≤ 256) && l.all (vS X Y lb tx cl d))) = _
    rw [depMs_all d l (fun s hs => hS d ih s (SL.Ins.mem hins s hs))]
    cases l with
    | nil => rw [depSs_nil]; simp
    | cons x r =>
      rw [depSs_eq (l := x :: r) (by simp)]
      have e1 : decide (depMs (x :: r) + 1 ≤ d + 1) = decide (depMs (x :: r) ≤ d) := decide_eq_decide.2 (by omega)
      rw [e1]
      generalize decide (depMs (x :: r) ≤ d) = b1
      generalize (x :: r).all RS = b2
      generalize decide ((x :: r).length ≤ 256) = b3
      cases b1 <;> cases b2 <;> cases b3 <;> rfl
end

end

end Go.Proofs.Ytiioffjjlcfhgaa
