/- Contract of the program's All: a source's tokens. -/
import Derived.Test.YtahpfbmaaccejaaDoorLexU
import Derived.Test.YtahpfbmaaccejaaDoorLexI
import Derived.Test.YtahpfbmaaccejaaDoorRegion
namespace Go.Proofs.YtahpfbmaaccejaaDoor
open Go.RowKit

theorem entersCol : Enters 20 := ⟨_, Tryd.func20, by kernel_rfl, by kernel_rfl⟩
theorem entersSkip : Enters 21 := ⟨_, Tryd.func21, by kernel_rfl, by kernel_rfl⟩

theorem all_start (w : World) (s : ByteArray) (W : World) (hW : W = (((((w.alloc (.cells #[.string s] 9)).alloc (.cells #[.int .i64 0, .int .i64 0, .int .i64 0] 28)).alloc (.cells #[.int .i64 0] 3)).alloc (.cells #[.int .i64 1] 3)).alloc (.cells #[.int .i64 0] 3))) : St W w.heap.size s 0 1 0 ∧ Blk W (w.heap.size + 1) 28 #[.int .i64 0, .int .i64 0, .int .i64 0] ∧ Below w.heap.size w W ∧ W.heap.size = w.heap.size + 5 := by
  subst hW
  refine ⟨⟨?_, ?_, ?_, ?_, Nat.le_refl _, Nat.zero_le _, rfl⟩, ?_, ?_, by simp⟩
  · exact ((((Blk.new w _ _).alloc _).alloc _).alloc _).alloc _
  · exact ((Blk.new_at _ _ _ (w.heap.size + 2) (by simp)).alloc _).alloc _
  · exact (Blk.new_at _ _ _ (w.heap.size + 3) (by simp)).alloc _
  · exact Blk.new_at _ _ _ (w.heap.size + 4) (by simp)
  · exact (((Blk.new_at _ _ _ (w.heap.size + 1) (by simp)).alloc _).alloc _).alloc _
  · exact (((((Below.refl _ _).alloc (Nat.le_refl _) _).alloc (by simp) _).alloc (by simp; omega) _).alloc (by simp; omega) _).alloc (by simp; omega) _

/-- the step of a walk in any order: append of one token -/
theorem step_appT {P : Program} (w : World) {ops : Array Oper} {o : Oper} {a : Act} {K : Act → World → Prop} {Q : Exit → Act → World → Prop} {E : Prop} (hgd : o.guard = none) (s x : Operand) (t : TypeId)
    (ho : o.op = .call { callee := .builtin .append, args := #[s, x], argTypes := #[t, t] })
    (base : Nat) (e : TypeId) (i : TypeInfo) (z : Value) (ht : P.underlying t = some (.slice e)) (hi : P.info? e = some i) (hz : i.zero = some z) (hzs : z.cells.size = 5) (hsize : i.size = 5) (hby : i.bytes = 48)
    (v : Value) (n : Nat) (ts : List Tk) (hs : a.eval s = v) (hown : w.ownsRow base e 5 v n (tkv ts))
    (g c : Nat) (k : Tk) (hx : a.eval x = .slice (some ⟨g, 0, none⟩) 1 c) (hb : Blk w g e (tkc k).toArray) (hbytes : n + 1 ≤ 1000000) (hbase : base ≤ w.heap.size)
    (h : ∀ A' c' w', w'.ownsRow base e 5 (.slice A' (n + 1) c') (n + 1) (tkv (ts ++ [k])) → w.grownBy w' v.ownBlock → K (a.put o.dst (.slice A' (n + 1) c')) w') :
    if Region.wanted o (yielded ops a.tmps) = true then Oper.wp P o a w K Q else E := by
  rw [if_pos (by simp [Region.wanted, hgd])]
  obtain ⟨v', w', hrun, k2, k3, _⟩ := run_append_own (P := P) w base t o.type e i z 5 48 ht hi hz hsize hby hzs (by omega) v n (tkv ts) hown ⟨g, 0, none⟩ 1 c (tkc k) rfl
    (fun j u hj => by
      rw [Addr.add_lit, Nat.zero_add, hb.cell, List.getElem?_toArray]
      exact hj)
    (fun u hu => by
      simp [tkc] at hu
      rcases hu with rfl | rfl | rfl | rfl | rfl <;> rfl) (by unfold maxLen; omega) (by omega) hbase
  obtain ⟨A', c', rfl⟩ := own_slice k2
  unfold Oper.wp execOp
  simp only [ho, resolve, invoke, builtin, Sem.run_bind, Sem.run_pure, Result.andThen_ok, List.map_toArray, List.map_cons, List.map_nil, hs, hx, hrun]
  have e2 : tkv ts ++ tkc k = tkv (ts ++ [k]) := by rw [tkv_append]; simp [tkv]
  exact h A' c' w' (by rw [← e2]; exact k2) k3

theorem gb_undrew {w w2 : World} {row : Option Nat} (h : w.drew.grownBy w2 row) : w.grownBy w2 row := ⟨h.os, h.tape, h.output, h.size, h.block⟩

theorem own_far {w : World} {base g : Nat} {e : TypeId} {size n : Nat} {v : Value} {xs : List Value} (h : w.ownsRow base e size v n xs) (hg : g < base) (i : Nat) (u : Value) : (w.setCell ⟨g, i, none⟩ u).ownsRow base e size v n xs :=
  h.kept (row := some g) ⟨rfl, rfl, rfl, by simp [World.setCell], fun k _ hk => Below.heap_setCell _ _ _ _ (fun e => hk (by rw [e]))⟩ (.inr fun e => by have := own_from h g e; omega)

/-- what the loop of All keeps -/
structure AllR (w wr : World) (h : Nat) (s : ByteArray) (k ln ls : Nat) (v : Value) (n : Nat) (out : List Tk) : Prop where
  st : St wr h s k ln ls
  bf : Blk wr (h + 1) 28 #[.int .i64 0, .int .i64 0, .int .i64 0]
  bel : Below h w wr
  sz : h + 5 ≤ wr.heap.size
  own : wr.ownsRow (h + 5) 34 5 v n (tkv out)
  pw : Pw wr

section
variable {w wr w2 : World} {h : Nat} {s : ByteArray} {k ln ls k2 ln2 ls2 : Nat} {v : Value} {n : Nat} {out : List Tk}
theorem AllR.below (x : AllR w wr h s k ln ls v n out) (hb : Below wr.heap.size wr w2) : AllR w w2 h s k ln ls v n out :=
  ⟨x.st.below hb x.sz, x.bf.below hb x.bf.lt, x.bel.trans (hb.mono (by have := x.sz; omega)), Nat.le_trans x.sz hb.size, own_below x.own hb, x.pw.below hb (Nat.le_refl _)⟩
theorem AllR.skip (x : AllR w wr h s k ln ls v n out) (hk : Kept h wr w2) (hs : St w2 h s k2 ln2 ls2) (hp : 1 < h) : AllR w w2 h s k2 ln2 ls2 v n out :=
  ⟨hs, (hk.block (h + 1) (.inl (by omega))).trans x.bf, x.bel.trans (hk.below (by omega)), by rw [hk.size]; exact x.sz, hk.own (Nat.le_refl _) x.own, x.pw.heap (hk.block _ (.inl (by omega)))⟩
theorem AllR.cells (x : AllR w wr h s k ln ls v n out) : wr.cell? ⟨h, 0, none⟩ = some (.string s) ∧ wr.cell? ⟨h + 2, 0, none⟩ = some (.int .i64 (k : Int)) ∧ wr.cell? ⟨h + 3, 0, none⟩ = some (.int .i64 (ln : Int)) ∧ wr.cell? ⟨h + 4, 0, none⟩ = some (.int .i64 (ls : Int)) :=
  ⟨x.st.1.cell 0, x.st.2.1.cell 0, x.st.2.2.1.cell 0, x.st.2.2.2.1.cell 0⟩
theorem AllR.app (x : AllR w wr h s k ln ls v n out) {o : Obj} {v2 : Value} {n2 : Nat} {out2 : List Tk} (hg : (wr.alloc o).grownBy w2 v.ownBlock) (ho : w2.ownsRow (h + 5) 34 5 v2 n2 (tkv out2)) (hp : 1 < h) : AllR w w2 h s k ln ls v2 n2 out2 := by
  have hs := x.sz
  have hb : Below (h + 5) wr w2 := ((Below.refl (h + 5) wr).alloc hs o).grown hg (by simp; omega) (own_from x.own)
  exact ⟨x.st.below hb (Nat.le_refl _), x.bf.below hb (by omega), x.bel.trans (hb.mono (by omega)), Nat.le_trans hs hb.size, ho, x.pw.heap (hb.block _ (by omega))⟩
theorem AllR.at (x : AllR w wr h s k ln ls v n out) (m : Nat) (hf : noF ((s.data.toList.drop k).take m)) (hm : k + m ≤ s.size) (hp : 1 < h) : AllR w (wr.setCell ⟨h + 2, 0, none⟩ (.int .i64 ((k : Int) + (m : Int)))) h s (k + m) ln ls v n out := by
  have hk : Kept h wr (wr.setCell ⟨h + 2, 0, none⟩ (.int .i64 ((k : Int) + (m : Int)))) := (Kept.refl h wr).set (h + 2) _ (by omega) (by omega)
  refine x.skip hk ?_ hp
  obtain ⟨b0, b2, b3, b4, h1, h2, h3⟩ := x.st
  refine ⟨b0.far (by show h ≠ h + 2; omega) _, b2.set_ 0 (.int .i64 ((k : Int) + (m : Int))), b3.far (by show h + 3 ≠ h + 2; omega) _, b4.far (by show h + 4 ≠ h + 2; omega) _, by omega, hm, ?_⟩
  have hl : s.data.toList.length = s.size := by rw [Array.length_toList]; rfl
  rw [take_more, posL_flat _ _ hf, h3, List.length_take, List.length_drop, hl, Nat.min_eq_left (by omega)]
  show (ln, k - ls + 1 + m) = _
  rw [show k - ls + 1 + m = k + m - ls + 1 by omega]
end

set_option maxRecDepth 100000 in
set_option maxHeartbeats 12800000 in
theorem All_any (w : World) (s : ByteArray) (hs : (s.size : Int) ≤ 60000) (hP : Pw w) :
    Calls Tryd.prog 13 #[.string s] w (OutT w.heap.size 34 w (lexL keyB s.data.toList)) := by
  have hmf : ∀ (fn : Fn) (first cap : Array Value) (w : World), (Instr.makeFunc fn first cap).run Tryd.prog w = .ok (.func fn first cap) w := fun _ _ _ _ => rfl
  have hk20 := entersCol.run
  have hk21 := entersSkip.run
  have hl : s.data.toList.length = s.size := by rw [Array.length_toList]; rfl
  have HL := Lib.hid hl
  obtain ⟨R, hR⟩ : ∃ R, R = lexL keyB s.data.toList := ⟨_, rfl⟩
  have HR0 : Hid (R = lexF keyB s.data.toList (s.size + 1) 0 []) := Lib.hid (by rw [hR]; unfold lexL; rw [hl, if_neg (by omega)])
  rw [← hR]
  clear hR hl
  have HP := Lib.hid hP
  clear hP
  have hs1 : (s.size : Int) ≤ 100000 := by omega
  obtain ⟨i0, hi, hz0, hsz, hby⟩ := inf_parts Tryd.inf_tok
  have HI := Lib.hid hi
  have HZ0 := Lib.hid hz0
  have HSZ := Lib.hid hsz
  have HBY := Lib.hid hby
  clear hi hz0 hsz hby
  obtain ⟨W, hW⟩ : ∃ W, W = (((((w.alloc (.cells #[.string s] 9)).alloc (.cells #[.int .i64 0, .int .i64 0, .int .i64 0] 28)).alloc (.cells #[.int .i64 0] 3)).alloc (.cells #[.int .i64 1] 3)).alloc (.cells #[.int .i64 0] 3)) := ⟨_, rfl⟩
  obtain ⟨hst, hbf, hbw, hws⟩ := all_start w s W hW
  have HPW : Hid (Pw W) := Lib.hid (HP.out.below hbw (Nat.le_refl _))
  have hwb := hst.2.1.lt
  obtain ⟨h, hh⟩ : ∃ h, h = w.heap.size := ⟨_, rfl⟩
  have hHH := Lib.hid hh
  rw [← hh] at hst hbf hbw hws ⊢
  have hp9 : 1 < h := by rw [hh]; exact HP.out.lt
  have HST := Lib.hid hst
  have HBF := Lib.hid hbf
  have HBW := Lib.hid hbw
  have HWS := Lib.hid hws
  clear hst hbf hbw hws hwb HP
  go_enter Tryd.func13, Tryd.ntmps13
  go_wp2_with fail
  rw [← hW, ← hHH.out]
  rw [show h + 1 + 1 = h + 2 from rfl, show h + 2 + 1 = h + 3 from rfl, show h + 3 + 1 = h + 4 from rfl]
  clear hW hh
  refine (skip_any W h s 0 1 0 HST.out hs).mono ?_
  rintro e w1 ⟨rfl, hk1, k1, ln1, ls1, hk1g, hst1⟩
  have HK0 := Lib.hid hk1
  have HS0 := Lib.hid hst1
  have HG0 : Hid (k1 = 0 + (gapF false (s.data.toList.drop 0)).1) := Lib.hid hk1g
  clear hk1 hst1 hk1g
  have hR1 : Hid (AllR w w1 h s k1 ln1 ls1 (.slice none 0 0) 0 []) := Lib.hid ((show AllR w W h s 0 1 0 (.slice none 0 0) 0 [] from ⟨HST.out, HBF.out, HBW.out, by rw [HWS.out]; exact Nat.le_refl _, ownT_nil _ _ _, HPW.out⟩).skip HK0.out HS0.out hp9)
  go_wp2_with fail
  go_loopw [9] (fun vo wr => ∃ (f i k ln ls n c : Nat) (A : Option Addr) (out : List Tk), vo = .slice A n c ∧ i ≤ k ∧ s.size < i + (f + 1) ∧ n ≤ i ∧ Hid (AllR w wr h s k ln ls (.slice A n c) n out) ∧ Hid (i + (gapF false (s.data.toList.drop i)).1 = k) ∧ Hid (R = lexF keyB s.data.toList (f + 1) i out)) (fun _ wr => s.size + 1 - atOf wr (h + 2))
  case atStart => exact ⟨s.size, 0, k1, ln1, ls1, 0, 0, none, [], rfl, Nat.zero_le _, by omega, Nat.le_refl _, hR1, Lib.hid HG0.out.symm, HR0⟩
  case round =>
    clear HR0 HG0 HS0 HK0 hR1 HST HBF HBW HWS HPW
    obtain ⟨f, i, k, ln, ls, n, c, A, out, rfl, hik, hf, hni, HA, HG, HR⟩ := hrel
    obtain ⟨c0, c2, c3, c4⟩ := HA.out.cells
    obtain ⟨_, _, _, _, hls, hks, hpos⟩ := HA.out.st
    have hol := ownT_len HA.out.own
    have HOL := Lib.hid hol
    have HPO := Lib.hid hpos
    clear hol hpos
    by_cases hlt : k < s.size
    · obtain ⟨⟨t, nn, er, wh⟩, hT⟩ : ∃ T, T = oneTk keyB (s.data.toList.drop k) := ⟨_, rfl⟩
      have HT : Hid (oneTk keyB (s.data.toList.drop k) = (t, nn, er, wh)) := Lib.hid hT.symm
      have hkl : k < s.data.toList.length := by rw [HL.out]; exact hlt
      have HKL := Lib.hid hkl
      obtain ⟨f1, f2⟩ := oneTk_flat keyB HT.out
      have HF1 := Lib.hid f1
      have HF2 := Lib.hid f2
      obtain ⟨q1, q2⟩ := oneTk_facts keyB (l := s.data.toList.drop k) (by rw [drop_at hlt]; exact List.cons_ne_nil _ _) HT.out
      rw [List.length_drop, HL.out] at q1 q2
      have HQ1 := Lib.hid q1
      have hnx : ∀ W, Pw W → Calls Tryd.prog 24 #[.string (s.extract k s.size)] W fun e w' => NxOut (t, nn, er, wh) e ∧ Below W.heap.size W w' := fun W hW => by
        have e : (s.extract k s.size).data.toList = s.data.toList.drop k := by
          have := ext_list s k (s.size - k)
          rw [Nat.add_sub_cancel' hks, List.take_of_length_le (by rw [List.length_drop, HL.out]; exact Nat.le_refl _)] at this
          exact this
        have hz : (s.extract k s.size).size = s.size - k := by rw [ByteArray.size_extract]; omega
        have := next_any W (s.extract k s.size) (by rw [hz]; omega) (by rw [hz]; omega) hW
        rw [e, HT.out] at this
        exact this
      clear hT hkl f1 f2 q1
      go_wp2_with fail
      refine (hnx wr HA.out.pw).mono ?_
      rintro e w2 ⟨⟨⟨x1, x2, x3, x4, x5⟩, m, rfl, p1, p2⟩, hb2⟩
      have P1 : Hid (er = 0 → (⟨x1, x2, x3, x4, x5⟩ : Tk) = t ∧ m = nn) := Lib.hid p1
      have P2 : Hid (er ≠ 0 → m = wh) := Lib.hid p2
      have HA2 := Lib.hid (HA.out.below hb2)
      clear p1 p2 hb2 c0 c2 c3 c4
      by_cases h0 : er = 0
      · obtain ⟨hx, hm⟩ := P1.out h0
        obtain ⟨q5, q6, _⟩ := HQ1.out h0
        have hnf := HF1.out h0
        subst h0
        rw [← hm] at q5 q6 hnf
        have HNF := Lib.hid hnf
        have HM := Lib.hid hm
        have HX := Lib.hid hx
        have hmk : k + m ≤ s.size := by omega
        obtain ⟨cc, hcc⟩ : ∃ cc : Int, cc = ((k - ls + 1 : Nat) : Int) := ⟨_, rfl⟩
        have hcol : ∀ W : World, W.cell? ⟨h + 4, 0, none⟩ = some (.int .i64 (ls : Int)) → Calls Tryd.prog 20 #[.int .i64 (k : Int), .pointer (some ⟨h + 4, 0, none⟩)] W fun e w' => e = .returned (.int .i64 cc) ∧ W = w' := fun W hW => by
          rw [hcc]
          exact col_any W (h + 4) k ls hW hls (by omega)
        have HCC := Lib.hid hcc
        clear hcc hnf hm hx P1 P2 HQ1 HF1 HF2 q2
        by_cases hc : n = 16384
        · have tc : ((n : Int) == 16384) = true := by rw [beq_iff_eq]; omega
          have HE : Hid (R = ([], (7, (ln : Int), cc))) := Lib.hid (by
            rw [HR.out, lexG_many HG.out HKL.out HT.out (by rw [HOL.out]; exact hc)]
            unfold failAt
            rw [HPO.out, HCC.out])
          clear HR hc HT HX HM
          go_wp2_with (refine wpList_store_row rfl 34 _ _ rfl w2.heap.size #[.int .i64 x1, .string (bs x2), .int .i64 x3, .int .i64 x4, .int .i64 x5] rfl rfl _ _ (Blk.new w2 _ _) tok_size rfl (five_one _ _ _ _ _) ?_; obtain ⟨V, hV⟩ : ∃ V, V = (w2.alloc (.cells #[.int .i64 0, .string ⟨#[]⟩, .int .i64 0, .int .i64 0, .int .i64 0] 34)).setRow w2.heap.size #[.int .i64 x1, .string (bs x2), .int .i64 x3, .int .i64 x4, .int .i64 x5] := ⟨_, rfl⟩; rw [← hV]; obtain ⟨hkV, hbV⟩ := put_tok hV; have HKV := Lib.hid hkV; have HBV := Lib.hid hbV; have HAV := Lib.hid (HA2.out.below hbV); clear hV hkV hbV; obtain ⟨c0, c2, c3, c4⟩ := HAV.out.cells; have e0 : V.cell? ⟨h + 1, 0, none⟩ = some (.int .i64 0) := HAV.out.bf.cell 0; have e1 : V.cell? ⟨h + 1, 1, none⟩ = some (.int .i64 0) := HAV.out.bf.cell 1; have e2 : V.cell? ⟨h + 1, 2, none⟩ = some (.int .i64 0) := HAV.out.bf.cell 2; have z0 : V.frozen? ⟨h + 1, 0, none⟩ = false := HAV.out.bf.frozen 0; have z1 : V.frozen? ⟨h + 1, 1, none⟩ = false := HAV.out.bf.frozen 1; have z2 : V.frozen? ⟨h + 1, 2, none⟩ = false := HAV.out.bf.frozen 2)
          have HY : Hid (Blk ((((V.setCell ⟨h + 1, 0, none⟩ (.int .i64 7)).setCell ⟨h + 1, 1, none⟩ (.int .i64 (ln : Int))).setCell ⟨h + 1, 2, none⟩ (.int .i64 cc)).drew) (h + 1) 28 #[.int .i64 7, .int .i64 (ln : Int), .int .i64 cc]) := Lib.hid (((HAV.out.bf.set_ 0 (.int .i64 7)).set_ 1 (.int .i64 (ln : Int))).set_ 2 (.int .i64 cc))
          have HYB : Hid (Below h w ((((V.setCell ⟨h + 1, 0, none⟩ (.int .i64 7)).setCell ⟨h + 1, 1, none⟩ (.int .i64 (ln : Int))).setCell ⟨h + 1, 2, none⟩ (.int .i64 cc)).drew)) := Lib.hid ((((HAV.out.bel.setCell (by show h ≤ h + 1; omega) _).setCell (by show h ≤ h + 1; omega) _).setCell (by show h ≤ h + 1; omega) _).drew)
          go_region_with (go_at_call 20; refine (hcol _ ?_).mono ?_; exact c4; rintro e w3 ⟨rfl, rfl⟩)
          all_goals
            go_wp2_with fail
            (try simp only [Exit.inBlock, Exit.then]); refine bodyPost_ret (results_tc rfl _ _ _ _ _ _ _ rfl HY.out Tryd.underlying28 rfl (by kernel_rfl)) rfl ?_
            exact outT_err HE.out HYB.out

        · have tc : ((n : Int) == 16384) = false := by rw [beq_eq_false_iff_ne]; omega
          obtain ⟨f2, hf2⟩ : ∃ f2, f = f2 + 1 := ⟨f - 1, by omega⟩
          have HE : Hid (R = lexF keyB s.data.toList (f2 + 1) (k + m) (out ++ [⟨x1, x2, x3, ln, cc⟩])) := Lib.hid (by
            rw [HR.out, lexG_go HG.out HKL.out HT.out (by rw [HOL.out]; exact hc), ← HM.out, hf2, ← HX.out]
            unfold putTk
            rw [HPO.out, HCC.out])
          have HF2 : Hid (s.size < k + m + (f2 + 1)) := Lib.hid (by omega)
          have hni2 : n + 1 ≤ k + m := by omega
          have w9 : IntKind.i64.wrap ((k : Int) + (m : Int)) = (k : Int) + (m : Int) := by rw [IntKind.wrap_i64]; omega
          have HAT := Lib.hid HA.out.st.at
          clear HR hc HT HX HM HG HKL hf hf2
          go_wp2_with (refine wpList_store_row rfl 34 _ _ rfl w2.heap.size #[.int .i64 x1, .string (bs x2), .int .i64 x3, .int .i64 x4, .int .i64 x5] rfl rfl _ _ (Blk.new w2 _ _) tok_size rfl (five_one _ _ _ _ _) ?_; obtain ⟨V, hV⟩ : ∃ V, V = (w2.alloc (.cells #[.int .i64 0, .string ⟨#[]⟩, .int .i64 0, .int .i64 0, .int .i64 0] 34)).setRow w2.heap.size #[.int .i64 x1, .string (bs x2), .int .i64 x3, .int .i64 x4, .int .i64 x5] := ⟨_, rfl⟩; rw [← hV]; obtain ⟨hkV, hbV⟩ := put_tok hV; have HKV := Lib.hid hkV; have HBV := Lib.hid hbV; have HAV := Lib.hid (HA2.out.below hbV); clear hV hkV hbV; obtain ⟨c0, c2, c3, c4⟩ := HAV.out.cells; have z3 : V.frozen? ⟨w2.heap.size, 3, none⟩ = false := HKV.out.frozen 3; have z4 : V.frozen? ⟨w2.heap.size, 4, none⟩ = false := HKV.out.frozen 4; have f3 : V.cell? ⟨w2.heap.size, 3, none⟩ = some (.int .i64 x4) := HKV.out.cell 3; have f4 : V.cell? ⟨w2.heap.size, 4, none⟩ = some (.int .i64 x5) := HKV.out.cell 4)
          go_region_with (go_at_call 20; refine (hcol _ ?_).mono ?_; exact c4; rintro e w3 ⟨rfl, rfl⟩)
          all_goals
            obtain ⟨V2, hV2⟩ : ∃ V2, V2 = ((V.setCell ⟨w2.heap.size, 3, none⟩ (.int .i64 (ln : Int))).setCell ⟨w2.heap.size, 4, none⟩ (.int .i64 cc)).drew := ⟨_, rfl⟩
            have HKV2 : Hid (Blk V2 w2.heap.size 34 #[.int .i64 x1, .string (bs x2), .int .i64 x3, .int .i64 (ln : Int), .int .i64 cc]) := Lib.hid (by rw [hV2]; exact (HKV.out.set_ 3 (.int .i64 (ln : Int))).set_ 4 (.int .i64 cc))
            have HBV2 : Hid (Below w2.heap.size w2 V2) := Lib.hid (by rw [hV2]; exact ((HBV.out.setCell (Nat.le_refl _) _).setCell (Nat.le_refl _) _).drew)
            have HA3 := Lib.hid (HA2.out.below HBV2.out)
            have hwb := HA3.out.sz
            rw [← hV2]
            clear hV2 z3 z4 f3 f4 c0 c2 c3 c4 hcol
            go_wp2_with (first | (refine wpList_load_row rfl 34 _ rfl w2.heap.size rfl 34 #[.int .i64 x1, .string (bs x2), .int .i64 x3, .int .i64 (ln : Int), .int .i64 cc] (0, 0) _ HKV2.out Tryd.underlying34 rfl tok_size ?_) | (at_builtin; refine wpList_appT _ rfl _ _ 25 rfl (h + 5) 34 i0 _ Tryd.underlying25 HI.out HZ0.out rfl HSZ.out HBY.out _ n out rfl (HA3.out.own.alloc _) V2.heap.size _ ⟨x1, x2, x3, ln, cc⟩ rfl (Blk.new V2 _ _) (by omega) (by simp; omega) ?_; intro A8 c8 w8 hown8 hg8; have HA8 := Lib.hid (HA3.out.app hg8 hown8 hp9); clear hown8 hg8; obtain ⟨d0, d2, d3, d4⟩ := HA8.out.cells; have y2 : w8.frozen? ⟨h + 2, 0, none⟩ = false := HA8.out.st.2.1.frozen 0))
            have HA9 := Lib.hid (HA8.out.at m HNF.out hmk hp9)
            refine (skip_any _ h s (k + m) ln ls HA9.out.st hs).mono ?_
            rintro e w10 ⟨rfl, hk10, k2, ln2, ls2, hk2, hst2⟩
            have HA10 := Lib.hid (HA9.out.skip hk10 hst2 hp9)
            have HG2 : Hid (k + m + (gapF false (s.data.toList.drop (k + m))).1 = k2) := Lib.hid hk2.symm
            have hk2m : k + m ≤ k2 := by omega
            have hk2s := HA10.out.st.2.2.2.2.2.1
            clear hk10 hst2 hk2 d0 d2 d3 d4 y2
            go_wp2_with fail
            go_roundw
            case rel => exact ⟨f2, k + m, k2, ln2, ls2, n + 1, c8, A8, _, rfl, hk2m, HF2.out, hni2, HA10, HG2, HE⟩
            case measure => rw [HA10.out.st.at, HAT.out]; omega
      · have hm : m = wh := P2.out h0
        have hmk : k + m ≤ s.size := by omega
        have HFA : Hid (failAt s.data.toList (k + m) er = (er, (ln : Int), ((k + m - ls + 1 : Nat) : Int))) := Lib.hid (by
          rw [failAt_flat (by rw [hm]; exact HF2.out h0) (by rw [HL.out]; exact hmk), HPO.out]
          show (er, (ln : Int), ((k - ls + 1 + m : Nat) : Int)) = _
          rw [show k - ls + 1 + m = k + m - ls + 1 by omega])
        have HE : Hid (R = ([], (er, (ln : Int), ((k + m - ls + 1 : Nat) : Int)))) := Lib.hid (by rw [HR.out, lexG_err HG.out HKL.out HT.out h0, ← hm, HFA.out])
        have t0 : (er == 0) = false := by rw [beq_eq_false_iff_ne]; exact h0
        obtain ⟨cc, hcc⟩ : ∃ cc : Int, cc = ((k + m - ls + 1 : Nat) : Int) := ⟨_, rfl⟩
        have hcol : ∀ W : World, W.cell? ⟨h + 4, 0, none⟩ = some (.int .i64 (ls : Int)) → Calls Tryd.prog 20 #[.int .i64 ((k : Int) + (m : Int)), .pointer (some ⟨h + 4, 0, none⟩)] W fun e w' => e = .returned (.int .i64 cc) ∧ W = w' := fun W hW => by
          have := col_any W (h + 4) (k + m) ls hW (by omega) (by omega)
          rw [hcc, ← show (((k + m : Nat) : Int)) = (k : Int) + (m : Int) from by omega]
          exact this
        rw [← hcc] at HE
        have w9 : IntKind.i64.wrap ((k : Int) + (m : Int)) = (k : Int) + (m : Int) := by rw [IntKind.wrap_i64]; omega
        clear hcc HFA HR P1 P2 HQ1 HF1 HF2 hm h0 HT
        go_wp2_with (refine wpList_store_row rfl 34 _ _ rfl w2.heap.size #[.int .i64 x1, .string (bs x2), .int .i64 x3, .int .i64 x4, .int .i64 x5] rfl rfl _ _ (Blk.new w2 _ _) tok_size rfl (five_one _ _ _ _ _) ?_; obtain ⟨V, hV⟩ : ∃ V, V = (w2.alloc (.cells #[.int .i64 0, .string ⟨#[]⟩, .int .i64 0, .int .i64 0, .int .i64 0] 34)).setRow w2.heap.size #[.int .i64 x1, .string (bs x2), .int .i64 x3, .int .i64 x4, .int .i64 x5] := ⟨_, rfl⟩; rw [← hV]; obtain ⟨hkV, hbV⟩ := put_tok hV; have HKV := Lib.hid hkV; have HAV := Lib.hid (HA2.out.below hbV); clear hV hkV hbV; obtain ⟨c0, c2, c3, c4⟩ := HAV.out.cells; have e0 : V.cell? ⟨h + 1, 0, none⟩ = some (.int .i64 0) := HAV.out.bf.cell 0; have e1 : V.cell? ⟨h + 1, 1, none⟩ = some (.int .i64 0) := HAV.out.bf.cell 1; have e2 : V.cell? ⟨h + 1, 2, none⟩ = some (.int .i64 0) := HAV.out.bf.cell 2; have z0 : V.frozen? ⟨h + 1, 0, none⟩ = false := HAV.out.bf.frozen 0; have z1 : V.frozen? ⟨h + 1, 1, none⟩ = false := HAV.out.bf.frozen 1; have z2 : V.frozen? ⟨h + 1, 2, none⟩ = false := HAV.out.bf.frozen 2)
        have HY : Hid (Blk ((((V.setCell ⟨h + 1, 0, none⟩ (.int .i64 er)).setCell ⟨h + 1, 1, none⟩ (.int .i64 (ln : Int))).setCell ⟨h + 1, 2, none⟩ (.int .i64 cc)).drew) (h + 1) 28 #[.int .i64 er, .int .i64 (ln : Int), .int .i64 cc]) := Lib.hid (((HAV.out.bf.set_ 0 (.int .i64 er)).set_ 1 (.int .i64 (ln : Int))).set_ 2 (.int .i64 cc))
        have HYB : Hid (Below h w ((((V.setCell ⟨h + 1, 0, none⟩ (.int .i64 er)).setCell ⟨h + 1, 1, none⟩ (.int .i64 (ln : Int))).setCell ⟨h + 1, 2, none⟩ (.int .i64 cc)).drew)) := Lib.hid ((((HAV.out.bel.setCell (by show h ≤ h + 1; omega) _).setCell (by show h ≤ h + 1; omega) _).setCell (by show h ≤ h + 1; omega) _).drew)
        go_region_with (go_at_call 20; refine (hcol _ ?_).mono ?_; exact c4; rintro e w3 ⟨rfl, rfl⟩)
        all_goals
          go_wp2_with fail
          (try simp only [Exit.inBlock, Exit.then]); refine bodyPost_ret (results_tc rfl _ _ _ _ _ _ _ rfl HY.out Tryd.underlying28 rfl (by kernel_rfl)) rfl ?_
          exact outT_err HE.out HYB.out
    · obtain ⟨cc, hcc⟩ : ∃ cc : Int, cc = ((k - ls + 1 : Nat) : Int) := ⟨_, rfl⟩
      have hcol : ∀ W : World, W.cell? ⟨h + 4, 0, none⟩ = some (.int .i64 (ls : Int)) → Calls Tryd.prog 20 #[.int .i64 (k : Int), .pointer (some ⟨h + 4, 0, none⟩)] W fun e w' => e = .returned (.int .i64 cc) ∧ W = w' := fun W hW => by
        rw [hcc]
        exact col_any W (h + 4) k ls hW hls (by omega)
      have HE : Hid (R = (out ++ [⟨0, [], 0, (ln : Int), cc⟩], (0, 0, 0))) := Lib.hid (by
        rw [HR.out, lexG_stop HG.out (by rw [HL.out]; omega)]
        unfold endTk
        rw [HPO.out, hcc])
      have hlti : ¬ (k : Int) < (s.size : Int) := by omega
      have HBR := Lib.hid HA.out.bel
      have hsz9 := HA.out.sz
      clear hcc HR HG HOL HPO
      go_wp2_with fail
      refine wp_region_held_drew (S := Below h w) (by kernel_rfl) HBR.out.drew (fun hHeld => ?_)
      refine held_take (i := 0) (fuel := 10) (v := ?_) (by rw [List.getElem?_toArray]; rfl) (by kernel_rfl) (by kernel_rfl) (by kernel_rfl) hHeld ?_ ?_ ?_ ?_
      rotate_left
      · intro u hSw
        go_simp
        try with_reducible rfl
      · rfl
      · exact fun _ _ _ h => h
      try simp only [Act.put, List.setIfInBounds_toArray, List.set_cons_zero, List.set_cons_succ]
      refine held_take (i := 2) (fuel := 9) (v := ?_) (by rw [List.getElem?_toArray]; rfl) (by kernel_rfl) (by kernel_rfl) (by kernel_rfl) hHeld ?_ ?_ ?_ ?_
      rotate_left
      · intro u hSw
        go_simp
        try with_reducible rfl
      · rfl
      · exact fun _ _ _ h => h
      try simp only [Act.put, List.setIfInBounds_toArray, List.set_cons_zero, List.set_cons_succ]
      refine held_take (i := 8) (fuel := 8) (v := ?_) (by rw [List.getElem?_toArray]; rfl) (by kernel_rfl) (by kernel_rfl) (by kernel_rfl) hHeld ?_ ?_ ?_ ?_
      rotate_left
      · intro u hSw
        go_simp
        try with_reducible rfl
      · rfl
      · exact fun _ _ _ h => h
      try simp only [Act.put, List.setIfInBounds_toArray, List.set_cons_zero, List.set_cons_succ]
      refine wpAnyH_ready (rs := [1, 3]) (fuel := 7) (by kernel_rfl) (by simp) ?_
      refine AllReadyH.cons (by rw [List.getElem?_toArray]; rfl) (fun K hK => ?_) ?_
      ·
        go_simp
        refine hK.out _ _ ?_ (fun hHeld => ?_)
        · exact hHeld
        clear hK K
        try simp only [Act.put, List.setIfInBounds_toArray, List.set_cons_zero, List.set_cons_succ]
        refine held_one (i := 3) (fuel := 6) (by kernel_rfl) (by rw [List.getElem?_toArray]; rfl) (fun K hK => ?_)
        go_simp
        refine hK.out _ _ ?_ (fun hHeld => ?_)
        · exact hHeld
        clear hK K
        try simp only [Act.put, List.setIfInBounds_toArray, List.set_cons_zero, List.set_cons_succ]
        refine held_one (i := 4) (fuel := 5) (by kernel_rfl) (by rw [List.getElem?_toArray]; rfl) (fun K hK => ?_)
        go_simp
        refine (hcol _ ?_).mono ?_
        exact c4
        rintro e w3 ⟨rfl, rfl⟩
        refine hK.out _ _ ?_ (fun hHeld => ?_)
        · exact hHeld
        clear hK K
        try simp only [Act.put, List.setIfInBounds_toArray, List.set_cons_zero, List.set_cons_succ]
        refine held_take (i := 5) (fuel := 4) (v := ?_) (by rw [List.getElem?_toArray]; rfl) (by kernel_rfl) (by kernel_rfl) (by kernel_rfl) hHeld ?_ ?_ ?_ ?_
        rotate_left
        · intro u hSw
          go_simp
          try with_reducible rfl
        · rfl
        · exact fun _ _ _ h => h
        try simp only [Act.put, List.setIfInBounds_toArray, List.set_cons_zero, List.set_cons_succ]
        refine held_one (i := 6) (fuel := 3) (by kernel_rfl) (by rw [List.getElem?_toArray]; rfl) (fun K hK => ?_)
        go_simp
        refine hK.out _ _ ?_ (fun hHeld => ?_)
        · exact hHeld.alloc (by show h ≤ wr.heap.size; omega) _
        clear hK K
        try simp only [Act.put, List.setIfInBounds_toArray, List.set_cons_zero, List.set_cons_succ]
        refine held_one (i := 7) (fuel := 2) (by kernel_rfl) (by rw [List.getElem?_toArray]; rfl) (fun K hK => ?_)
        refine step_appT _ (by rfl) _ _ 25 (by rfl) (h + 5) 34 i0 _ Tryd.underlying25 HI.out HZ0.out rfl HSZ.out HBY.out (.slice A n c) n out (by rfl) (HA.out.own.alloc (.cells #[.int .i64 0, .string ⟨#[]⟩, .int .i64 0, .int .i64 (ln : Int), .int .i64 cc] 34)) wr.heap.size _ ⟨0, [], 0, (ln : Int), cc⟩ (by rfl) (Blk.new wr _ _) (by omega) (by show h + 5 ≤ (wr.alloc (.cells #[.int .i64 0, .string ⟨#[]⟩, .int .i64 0, .int .i64 (ln : Int), .int .i64 cc] 34)).heap.size; simp; omega) ?_
        intro A9 c9 w9 hown9 hg9
        refine hK.out _ _ ?_ (fun hHeld => ?_)
        · exact hHeld.grown hg9 (by show h ≤ (wr.alloc (.cells #[.int .i64 0, .string ⟨#[]⟩, .int .i64 0, .int .i64 (ln : Int), .int .i64 cc] 34)).heap.size; simp; omega) (fun k hk => by have := own_from HA.out.own k hk; omega)
        clear hK K
        try simp only [Act.put, List.setIfInBounds_toArray, List.set_cons_zero, List.set_cons_succ]
        have HA9 := Lib.hid (HA.out.app (o := .cells #[.int .i64 0, .string ⟨#[]⟩, .int .i64 0, .int .i64 (ln : Int), .int .i64 cc] 34) (gb_undrew hg9) hown9 hp9)
        have e0 : w9.cell? ⟨h + 1, 0, none⟩ = some (.int .i64 0) := HA9.out.bf.cell 0
        have e1 : w9.cell? ⟨h + 1, 1, none⟩ = some (.int .i64 0) := HA9.out.bf.cell 1
        have e2 : w9.cell? ⟨h + 1, 2, none⟩ = some (.int .i64 0) := HA9.out.bf.cell 2
        have z0 : w9.frozen? ⟨h + 1, 0, none⟩ = false := HA9.out.bf.frozen 0
        have z1 : w9.frozen? ⟨h + 1, 1, none⟩ = false := HA9.out.bf.frozen 1
        have z2 : w9.frozen? ⟨h + 1, 2, none⟩ = false := HA9.out.bf.frozen 2
        clear hown9 hg9
        refine held_take (i := 9) (fuel := 1) (v := ?_) (by rw [List.getElem?_toArray]; rfl) (by kernel_rfl) (by kernel_rfl) (by kernel_rfl) hHeld ?_ ?_ ?_ ?_
        rotate_left
        · intro u hSw
          go_simp
          try with_reducible rfl
        · rfl
        · exact fun _ _ _ h => h
        try simp only [Act.put, List.setIfInBounds_toArray, List.set_cons_zero, List.set_cons_succ]
        refine held_one (i := 10) (fuel := 0) (by kernel_rfl) (by rw [List.getElem?_toArray]; rfl) (fun K hK => ?_)
        go_simp
        refine hK.out _ _ ?_ (fun hHeld => ?_)
        · exact ((hHeld.setCell (by show h ≤ h + 1; omega) _).setCell (by show h ≤ h + 1; omega) _).setCell (by show h ≤ h + 1; omega) _
        clear hK K
        try simp only [Act.put, List.setIfInBounds_toArray, List.set_cons_zero, List.set_cons_succ]
        refine wpAnyH_done (by kernel_rfl) ?_ _
        have HY : Hid (Blk (((w9.setCell ⟨h + 1, 0, none⟩ (.int .i64 0)).setCell ⟨h + 1, 1, none⟩ (.int .i64 0)).setCell ⟨h + 1, 2, none⟩ (.int .i64 0)) (h + 1) 28 #[.int .i64 0, .int .i64 0, .int .i64 0]) := Lib.hid (((HA9.out.bf.set_ 0 (.int .i64 0)).set_ 1 (.int .i64 0)).set_ 2 (.int .i64 0))
        have HYO := Lib.hid (own_far (own_far (own_far HA9.out.own (show h + 1 < h + 5 by omega) 0 (.int .i64 0)) (show h + 1 < h + 5 by omega) 1 (.int .i64 0)) (show h + 1 < h + 5 by omega) 2 (.int .i64 0))
        have HYB := Lib.hid hHeld
        clear hHeld
        go_wp2_with fail
        (try simp only [Exit.inBlock, Exit.then]); refine bodyPost_ret (results_tc rfl _ _ _ _ _ _ _ rfl HY.out Tryd.underlying28 rfl (by kernel_rfl)) rfl ?_
        exact outT_ok HE.out (own_base HYO.out (by omega)) HYB.out
      refine AllReadyH.cons (by rw [List.getElem?_toArray]; rfl) (fun K hK => ?_) ?_
      ·
        go_simp
        refine hK.out _ _ ?_ (fun hHeld => ?_)
        · exact hHeld
        clear hK K
        try simp only [Act.put, List.setIfInBounds_toArray, List.set_cons_zero, List.set_cons_succ]
        refine wpAnyH_ready (rs := [1, 4]) (fuel := 6) (by kernel_rfl) (by simp) ?_
        refine AllReadyH.cons (by rw [List.getElem?_toArray]; rfl) (fun K hK => ?_) ?_
        ·
          go_simp
          refine hK.out _ _ ?_ (fun hHeld => ?_)
          · exact hHeld
          clear hK K
          try simp only [Act.put, List.setIfInBounds_toArray, List.set_cons_zero, List.set_cons_succ]
          refine held_one (i := 4) (fuel := 5) (by kernel_rfl) (by rw [List.getElem?_toArray]; rfl) (fun K hK => ?_)
          go_simp
          refine (hcol _ ?_).mono ?_
          exact c4
          rintro e w3 ⟨rfl, rfl⟩
          refine hK.out _ _ ?_ (fun hHeld => ?_)
          · exact hHeld
          clear hK K
          try simp only [Act.put, List.setIfInBounds_toArray, List.set_cons_zero, List.set_cons_succ]
          refine held_take (i := 5) (fuel := 4) (v := ?_) (by rw [List.getElem?_toArray]; rfl) (by kernel_rfl) (by kernel_rfl) (by kernel_rfl) hHeld ?_ ?_ ?_ ?_
          rotate_left
          · intro u hSw
            go_simp
            try with_reducible rfl
          · rfl
          · exact fun _ _ _ h => h
          try simp only [Act.put, List.setIfInBounds_toArray, List.set_cons_zero, List.set_cons_succ]
          refine held_one (i := 6) (fuel := 3) (by kernel_rfl) (by rw [List.getElem?_toArray]; rfl) (fun K hK => ?_)
          go_simp
          refine hK.out _ _ ?_ (fun hHeld => ?_)
          · exact hHeld.alloc (by show h ≤ wr.heap.size; omega) _
          clear hK K
          try simp only [Act.put, List.setIfInBounds_toArray, List.set_cons_zero, List.set_cons_succ]
          refine held_one (i := 7) (fuel := 2) (by kernel_rfl) (by rw [List.getElem?_toArray]; rfl) (fun K hK => ?_)
          refine step_appT _ (by rfl) _ _ 25 (by rfl) (h + 5) 34 i0 _ Tryd.underlying25 HI.out HZ0.out rfl HSZ.out HBY.out (.slice A n c) n out (by rfl) (HA.out.own.alloc (.cells #[.int .i64 0, .string ⟨#[]⟩, .int .i64 0, .int .i64 (ln : Int), .int .i64 cc] 34)) wr.heap.size _ ⟨0, [], 0, (ln : Int), cc⟩ (by rfl) (Blk.new wr _ _) (by omega) (by show h + 5 ≤ (wr.alloc (.cells #[.int .i64 0, .string ⟨#[]⟩, .int .i64 0, .int .i64 (ln : Int), .int .i64 cc] 34)).heap.size; simp; omega) ?_
          intro A9 c9 w9 hown9 hg9
          refine hK.out _ _ ?_ (fun hHeld => ?_)
          · exact hHeld.grown hg9 (by show h ≤ (wr.alloc (.cells #[.int .i64 0, .string ⟨#[]⟩, .int .i64 0, .int .i64 (ln : Int), .int .i64 cc] 34)).heap.size; simp; omega) (fun k hk => by have := own_from HA.out.own k hk; omega)
          clear hK K
          try simp only [Act.put, List.setIfInBounds_toArray, List.set_cons_zero, List.set_cons_succ]
          have HA9 := Lib.hid (HA.out.app (o := .cells #[.int .i64 0, .string ⟨#[]⟩, .int .i64 0, .int .i64 (ln : Int), .int .i64 cc] 34) (gb_undrew hg9) hown9 hp9)
          have e0 : w9.cell? ⟨h + 1, 0, none⟩ = some (.int .i64 0) := HA9.out.bf.cell 0
          have e1 : w9.cell? ⟨h + 1, 1, none⟩ = some (.int .i64 0) := HA9.out.bf.cell 1
          have e2 : w9.cell? ⟨h + 1, 2, none⟩ = some (.int .i64 0) := HA9.out.bf.cell 2
          have z0 : w9.frozen? ⟨h + 1, 0, none⟩ = false := HA9.out.bf.frozen 0
          have z1 : w9.frozen? ⟨h + 1, 1, none⟩ = false := HA9.out.bf.frozen 1
          have z2 : w9.frozen? ⟨h + 1, 2, none⟩ = false := HA9.out.bf.frozen 2
          clear hown9 hg9
          refine held_take (i := 9) (fuel := 1) (v := ?_) (by rw [List.getElem?_toArray]; rfl) (by kernel_rfl) (by kernel_rfl) (by kernel_rfl) hHeld ?_ ?_ ?_ ?_
          rotate_left
          · intro u hSw
            go_simp
            try with_reducible rfl
          · rfl
          · exact fun _ _ _ h => h
          try simp only [Act.put, List.setIfInBounds_toArray, List.set_cons_zero, List.set_cons_succ]
          refine held_one (i := 10) (fuel := 0) (by kernel_rfl) (by rw [List.getElem?_toArray]; rfl) (fun K hK => ?_)
          go_simp
          refine hK.out _ _ ?_ (fun hHeld => ?_)
          · exact ((hHeld.setCell (by show h ≤ h + 1; omega) _).setCell (by show h ≤ h + 1; omega) _).setCell (by show h ≤ h + 1; omega) _
          clear hK K
          try simp only [Act.put, List.setIfInBounds_toArray, List.set_cons_zero, List.set_cons_succ]
          refine wpAnyH_done (by kernel_rfl) ?_ _
          have HY : Hid (Blk (((w9.setCell ⟨h + 1, 0, none⟩ (.int .i64 0)).setCell ⟨h + 1, 1, none⟩ (.int .i64 0)).setCell ⟨h + 1, 2, none⟩ (.int .i64 0)) (h + 1) 28 #[.int .i64 0, .int .i64 0, .int .i64 0]) := Lib.hid (((HA9.out.bf.set_ 0 (.int .i64 0)).set_ 1 (.int .i64 0)).set_ 2 (.int .i64 0))
          have HYO := Lib.hid (own_far (own_far (own_far HA9.out.own (show h + 1 < h + 5 by omega) 0 (.int .i64 0)) (show h + 1 < h + 5 by omega) 1 (.int .i64 0)) (show h + 1 < h + 5 by omega) 2 (.int .i64 0))
          have HYB := Lib.hid hHeld
          clear hHeld
          go_wp2_with fail
          (try simp only [Exit.inBlock, Exit.then]); refine bodyPost_ret (results_tc rfl _ _ _ _ _ _ _ rfl HY.out Tryd.underlying28 rfl (by kernel_rfl)) rfl ?_
          exact outT_ok HE.out (own_base HYO.out (by omega)) HYB.out
        refine AllReadyH.cons (by rw [List.getElem?_toArray]; rfl) (fun K hK => ?_) ?_
        ·
          go_simp
          refine (hcol _ ?_).mono ?_
          exact c4
          rintro e w3 ⟨rfl, rfl⟩
          refine hK.out _ _ ?_ (fun hHeld => ?_)
          · exact hHeld
          clear hK K
          try simp only [Act.put, List.setIfInBounds_toArray, List.set_cons_zero, List.set_cons_succ]
          refine held_one (i := 1) (fuel := 5) (by kernel_rfl) (by rw [List.getElem?_toArray]; rfl) (fun K hK => ?_)
          go_simp
          refine hK.out _ _ ?_ (fun hHeld => ?_)
          · exact hHeld
          clear hK K
          try simp only [Act.put, List.setIfInBounds_toArray, List.set_cons_zero, List.set_cons_succ]
          refine held_take (i := 5) (fuel := 4) (v := ?_) (by rw [List.getElem?_toArray]; rfl) (by kernel_rfl) (by kernel_rfl) (by kernel_rfl) hHeld ?_ ?_ ?_ ?_
          rotate_left
          · intro u hSw
            go_simp
            try with_reducible rfl
          · rfl
          · exact fun _ _ _ h => h
          try simp only [Act.put, List.setIfInBounds_toArray, List.set_cons_zero, List.set_cons_succ]
          refine held_one (i := 6) (fuel := 3) (by kernel_rfl) (by rw [List.getElem?_toArray]; rfl) (fun K hK => ?_)
          go_simp
          refine hK.out _ _ ?_ (fun hHeld => ?_)
          · exact hHeld.alloc (by show h ≤ wr.heap.size; omega) _
          clear hK K
          try simp only [Act.put, List.setIfInBounds_toArray, List.set_cons_zero, List.set_cons_succ]
          refine held_one (i := 7) (fuel := 2) (by kernel_rfl) (by rw [List.getElem?_toArray]; rfl) (fun K hK => ?_)
          refine step_appT _ (by rfl) _ _ 25 (by rfl) (h + 5) 34 i0 _ Tryd.underlying25 HI.out HZ0.out rfl HSZ.out HBY.out (.slice A n c) n out (by rfl) (HA.out.own.alloc (.cells #[.int .i64 0, .string ⟨#[]⟩, .int .i64 0, .int .i64 (ln : Int), .int .i64 cc] 34)) wr.heap.size _ ⟨0, [], 0, (ln : Int), cc⟩ (by rfl) (Blk.new wr _ _) (by omega) (by show h + 5 ≤ (wr.alloc (.cells #[.int .i64 0, .string ⟨#[]⟩, .int .i64 0, .int .i64 (ln : Int), .int .i64 cc] 34)).heap.size; simp; omega) ?_
          intro A9 c9 w9 hown9 hg9
          refine hK.out _ _ ?_ (fun hHeld => ?_)
          · exact hHeld.grown hg9 (by show h ≤ (wr.alloc (.cells #[.int .i64 0, .string ⟨#[]⟩, .int .i64 0, .int .i64 (ln : Int), .int .i64 cc] 34)).heap.size; simp; omega) (fun k hk => by have := own_from HA.out.own k hk; omega)
          clear hK K
          try simp only [Act.put, List.setIfInBounds_toArray, List.set_cons_zero, List.set_cons_succ]
          have HA9 := Lib.hid (HA.out.app (o := .cells #[.int .i64 0, .string ⟨#[]⟩, .int .i64 0, .int .i64 (ln : Int), .int .i64 cc] 34) (gb_undrew hg9) hown9 hp9)
          have e0 : w9.cell? ⟨h + 1, 0, none⟩ = some (.int .i64 0) := HA9.out.bf.cell 0
          have e1 : w9.cell? ⟨h + 1, 1, none⟩ = some (.int .i64 0) := HA9.out.bf.cell 1
          have e2 : w9.cell? ⟨h + 1, 2, none⟩ = some (.int .i64 0) := HA9.out.bf.cell 2
          have z0 : w9.frozen? ⟨h + 1, 0, none⟩ = false := HA9.out.bf.frozen 0
          have z1 : w9.frozen? ⟨h + 1, 1, none⟩ = false := HA9.out.bf.frozen 1
          have z2 : w9.frozen? ⟨h + 1, 2, none⟩ = false := HA9.out.bf.frozen 2
          clear hown9 hg9
          refine held_take (i := 9) (fuel := 1) (v := ?_) (by rw [List.getElem?_toArray]; rfl) (by kernel_rfl) (by kernel_rfl) (by kernel_rfl) hHeld ?_ ?_ ?_ ?_
          rotate_left
          · intro u hSw
            go_simp
            try with_reducible rfl
          · rfl
          · exact fun _ _ _ h => h
          try simp only [Act.put, List.setIfInBounds_toArray, List.set_cons_zero, List.set_cons_succ]
          refine held_one (i := 10) (fuel := 0) (by kernel_rfl) (by rw [List.getElem?_toArray]; rfl) (fun K hK => ?_)
          go_simp
          refine hK.out _ _ ?_ (fun hHeld => ?_)
          · exact ((hHeld.setCell (by show h ≤ h + 1; omega) _).setCell (by show h ≤ h + 1; omega) _).setCell (by show h ≤ h + 1; omega) _
          clear hK K
          try simp only [Act.put, List.setIfInBounds_toArray, List.set_cons_zero, List.set_cons_succ]
          refine wpAnyH_done (by kernel_rfl) ?_ _
          have HY : Hid (Blk (((w9.setCell ⟨h + 1, 0, none⟩ (.int .i64 0)).setCell ⟨h + 1, 1, none⟩ (.int .i64 0)).setCell ⟨h + 1, 2, none⟩ (.int .i64 0)) (h + 1) 28 #[.int .i64 0, .int .i64 0, .int .i64 0]) := Lib.hid (((HA9.out.bf.set_ 0 (.int .i64 0)).set_ 1 (.int .i64 0)).set_ 2 (.int .i64 0))
          have HYO := Lib.hid (own_far (own_far (own_far HA9.out.own (show h + 1 < h + 5 by omega) 0 (.int .i64 0)) (show h + 1 < h + 5 by omega) 1 (.int .i64 0)) (show h + 1 < h + 5 by omega) 2 (.int .i64 0))
          have HYB := Lib.hid hHeld
          clear hHeld
          go_wp2_with fail
          (try simp only [Exit.inBlock, Exit.then]); refine bodyPost_ret (results_tc rfl _ _ _ _ _ _ _ rfl HY.out Tryd.underlying28 rfl (by kernel_rfl)) rfl ?_
          exact outT_ok HE.out (own_base HYO.out (by omega)) HYB.out
        exact AllReadyH.nil
      exact AllReadyH.nil

end Go.Proofs.YtahpfbmaaccejaaDoor
