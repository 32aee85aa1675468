/- The parts of a source that declare names; contracts of check and declare. -/
import Derived.Test.YtgeglhgkibcpfaaDoorNmqC
import Derived.Test.YtgeglhgkibcpfaaDoorSrc
import Derived.Test.YtgeglhgkibcpfaaDoorCls
import Derived.Test.YtgeglhgkibcpfaaDoorLexL
import Derived.Test.YtgeglhgkibcpfaaDoorTells
import Derived.Test.YtgeglhgkibcpfaaDoorNamD
import Derived.Test.YtgeglhgkibcpfaaDoorRegion
import Derived.Laws.Rows
namespace Go.Proofs.YtgeglhgkibcpfaaDoor
open Go.RowKit
set_option linter.unusedVariables false

theorem RdX.at {st : Nat} {w : World} {B : Nat} {A : Option Addr} {n : Nat} {ls : List (List UInt8)} (h : RdX st w B A n ls) {i : Nat} (hi : i < ls.length) : i < n ∧ ∃ ad : Addr, A = some ad ∧ w.cell? (ad.add (i * st)) = some (.string (bs (ls[i]?.getD []))) := by
  have hl := h.1
  obtain ⟨ad, e, _, hc⟩ := h.2 (by omega)
  exact ⟨by omega, ad, e, hc i hi⟩

/-- a function value that gives names by their places, in each world that differs from w at most at block b -/
def Nmr (w : World) (b : Nat) (k : FuncId) (cs : Array Value) (ls : List (List UInt8)) : Prop :=
  Enters k ∧ ∀ w', w.grownBy w' (some b) → ∀ i, i < ls.length → Calls Tryd.prog k (#[.int .i64 (i : Int)] ++ cs) w' fun e w'' => e = .returned (.string (bs (ls[i]?.getD []))) ∧ w'' = w'

theorem Nmr.kept {w w1 : World} {b : Nat} {k : FuncId} {cs : Array Value} {ls : List (List UInt8)} (h : Nmr w b k cs ls) (hb : w.grownBy w1 (some b)) : Nmr w1 b k cs ls := ⟨h.1, fun w' h' i hi => h.2 w' (hb.trans h') i hi⟩

theorem enters_np0 : Enters 42 := ⟨_, Tryd.func42, by kernel_rfl, by kernel_rfl⟩

set_option maxHeartbeats 1000000 in
theorem nprt0_any (X : Src) (W : World) (Bs B : Nat) (d : Dl) (hb : Blk W Bs 39 (srcCells X)) (h : X.Nam W B d) (i : Nat) (hi : i < d.fl.length) :
    Calls Tryd.prog 42 #[.int .i64 (i : Int), .pointer (some ⟨Bs, 0, none⟩)] W fun e w' => e = .returned (.string (bs (d.fl[i]?.getD []))) ∧ w' = W := by
  have hc := hb.cell 5
  obtain ⟨hin, ad, hA, he⟩ := h.fl.at hi
  simp [srcCells] at hc
  rw [hA] at hc
  rw [Nat.mul_one] at he
  generalize d.fl[i]?.getD [] = s at he ⊢
  clear hb h hA hi
  go_enter Tryd.func42, Tryd.ntmps42
  go_wp2_with fail
  go_ret
  exact ⟨rfl, rfl⟩

theorem enters_np1 : Enters 43 := ⟨_, Tryd.func43, by kernel_rfl, by kernel_rfl⟩

set_option maxHeartbeats 1000000 in
theorem nprt1_any (X : Src) (W : World) (Bs B : Nat) (d : Dl) (hb : Blk W Bs 39 (srcCells X)) (h : X.Nam W B d) (i : Nat) (hi : i < d.pr.length) :
    Calls Tryd.prog 43 #[.int .i64 (i : Int), .pointer (some ⟨Bs, 0, none⟩)] W fun e w' => e = .returned (.string (bs (d.pr[i]?.getD []))) ∧ w' = W := by
  have hc := hb.cell 6
  obtain ⟨hin, ad, hA, he⟩ := h.pr.at hi
  simp [srcCells] at hc
  rw [hA] at hc
  skip
  generalize d.pr[i]?.getD [] = s at he ⊢
  clear hb h hA hi
  go_enter Tryd.func43, Tryd.ntmps43
  go_wp2_with fail
  go_ret
  exact ⟨rfl, rfl⟩

theorem enters_np2 : Enters 44 := ⟨_, Tryd.func44, by kernel_rfl, by kernel_rfl⟩

set_option maxHeartbeats 1000000 in
theorem nprt2_any (X : Src) (W : World) (Bs B : Nat) (d : Dl) (hb : Blk W Bs 39 (srcCells X)) (h : X.Nam W B d) (i : Nat) (hi : i < d.gl.length) :
    Calls Tryd.prog 44 #[.int .i64 (i : Int), .pointer (some ⟨Bs, 0, none⟩)] W fun e w' => e = .returned (.string (bs (d.gl[i]?.getD []))) ∧ w' = W := by
  have hc := hb.cell 7
  obtain ⟨hin, ad, hA, he⟩ := h.gl.at hi
  simp [srcCells] at hc
  rw [hA] at hc
  skip
  generalize d.gl[i]?.getD [] = s at he ⊢
  clear hb h hA hi
  go_enter Tryd.func44, Tryd.ntmps44
  go_wp2_with fail
  go_ret
  exact ⟨rfl, rfl⟩

theorem enters_np3 : Enters 45 := ⟨_, Tryd.func45, by kernel_rfl, by kernel_rfl⟩

set_option maxHeartbeats 1000000 in
theorem nprt3_any (X : Src) (W : World) (Bs B : Nat) (d : Dl) (hb : Blk W Bs 39 (srcCells X)) (h : X.Nam W B d) (i : Nat) (hi : i < d.ob.length) :
    Calls Tryd.prog 45 #[.int .i64 (i : Int), .pointer (some ⟨Bs, 0, none⟩)] W fun e w' => e = .returned (.string (bs (d.ob[i]?.getD []))) ∧ w' = W := by
  have hc := hb.cell 8
  obtain ⟨hin, ad, hA, he⟩ := h.ob.at hi
  simp [srcCells] at hc
  rw [hA] at hc
  skip
  generalize d.ob[i]?.getD [] = s at he ⊢
  clear hb h hA hi
  go_enter Tryd.func45, Tryd.ntmps45
  go_wp2_with fail
  go_ret
  exact ⟨rfl, rfl⟩

theorem enters_np4 : Enters 46 := ⟨_, Tryd.func46, by kernel_rfl, by kernel_rfl⟩

set_option maxHeartbeats 1000000 in
theorem nprt4_any (X : Src) (W : World) (Bs B : Nat) (d : Dl) (hb : Blk W Bs 39 (srcCells X)) (h : X.Nam W B d) (i : Nat) (hi : i < d.ve.length) :
    Calls Tryd.prog 46 #[.int .i64 (i : Int), .pointer (some ⟨Bs, 0, none⟩)] W fun e w' => e = .returned (.string (bs (d.ve[i]?.getD []))) ∧ w' = W := by
  have hc := hb.cell 9
  obtain ⟨hin, ad, hA, he⟩ := h.ve.at hi
  simp [srcCells] at hc
  rw [hA] at hc
  skip
  generalize d.ve[i]?.getD [] = s at he ⊢
  clear hb h hA hi
  go_enter Tryd.func46, Tryd.ntmps46
  go_wp2_with fail
  go_ret
  exact ⟨rfl, rfl⟩

theorem enters_np5 : Enters 47 := ⟨_, Tryd.func47, by kernel_rfl, by kernel_rfl⟩

set_option maxHeartbeats 1000000 in
theorem nprt5_any (X : Src) (W : World) (Bs B : Nat) (d : Dl) (hb : Blk W Bs 39 (srcCells X)) (h : X.Nam W B d) (i : Nat) (hi : i < d.fu.length) :
    Calls Tryd.prog 47 #[.int .i64 (i : Int), .pointer (some ⟨Bs, 0, none⟩)] W fun e w' => e = .returned (.string (bs (d.fu[i]?.getD []))) ∧ w' = W := by
  have hc := hb.cell 11
  obtain ⟨hin, ad, hA, he⟩ := h.fu.at hi
  simp [srcCells] at hc
  rw [hA] at hc
  skip
  generalize d.fu[i]?.getD [] = s at he ⊢
  clear hb h hA hi
  go_enter Tryd.func47, Tryd.ntmps47
  go_wp2_with fail
  go_ret
  exact ⟨rfl, rfl⟩

theorem enters_np6 : Enters 48 := ⟨_, Tryd.func48, by kernel_rfl, by kernel_rfl⟩

set_option maxHeartbeats 1000000 in
theorem nprt6_any (X : Src) (W : World) (Bs B : Nat) (d : Dl) (hb : Blk W Bs 39 (srcCells X)) (h : X.Nam W B d) (i : Nat) (hi : i < d.da.length) :
    Calls Tryd.prog 48 #[.int .i64 (i : Int), .pointer (some ⟨Bs, 0, none⟩)] W fun e w' => e = .returned (.string (bs (d.da[i]?.getD []))) ∧ w' = W := by
  have hc := hb.cell 12
  obtain ⟨hin, ad, hA, he⟩ := h.da.at hi
  simp [srcCells] at hc
  rw [hA] at hc
  skip
  generalize d.da[i]?.getD [] = s at he ⊢
  clear hb h hA hi
  go_enter Tryd.func48, Tryd.ntmps48
  go_wp2_with fail
  go_ret
  exact ⟨rfl, rfl⟩

/-- the parts, as cells -/
def partsC (X : Src) (B : Nat) : Array Value := #[.int .i64 2, .int .i64 1, .int .i64 4, .int .i64 16, .int .i64 (X.n0 : Int), .func (.func 42) #[] #[.pointer (some ⟨B, 0, none⟩)], .int .i64 3, .int .i64 2, .int .i64 0, .int .i64 16, .int .i64 (X.n1 : Int), .func (.func 43) #[] #[.pointer (some ⟨B, 0, none⟩)], .int .i64 4, .int .i64 3, .int .i64 0, .int .i64 64, .int .i64 (X.n2 : Int), .func (.func 44) #[] #[.pointer (some ⟨B, 0, none⟩)], .int .i64 5, .int .i64 4, .int .i64 2, .int .i64 128, .int .i64 (X.n3 : Int), .func (.func 45) #[] #[.pointer (some ⟨B, 0, none⟩)], .int .i64 6, .int .i64 5, .int .i64 0, .int .i64 64, .int .i64 (X.n4 : Int), .func (.func 46) #[] #[.pointer (some ⟨B, 0, none⟩)], .int .i64 8, .int .i64 6, .int .i64 0, .int .i64 64, .int .i64 (X.n6 : Int), .func (.func 47) #[] #[.pointer (some ⟨B, 0, none⟩)], .int .i64 9, .int .i64 7, .int .i64 0, .int .i64 16, .int .i64 (X.n7 : Int), .func (.func 48) #[] #[.pointer (some ⟨B, 0, none⟩)]]

set_option maxRecDepth 100000 in
set_option maxHeartbeats 3200000 in
theorem nparts_any (X : Src) (w : World) : Calls Tryd.prog 25 #[srcV X] w fun e w' => e = .returned (.slice (some ⟨w.heap.size + 1, 0, none⟩) 7 7) ∧ w' = (w.alloc (.cells (srcCells X) 39)).alloc (.cells (partsC X w.heap.size) 65) := by
  obtain ⟨W, hW⟩ : ∃ W, W = w.alloc (.cells (srcCells X) 39) := ⟨_, rfl⟩
  have hs : W.heap.size = w.heap.size + 1 := by rw [hW]; simp
  have HK : Hid (Blk W w.heap.size 39 (srcCells X)) := Lib.hid (by rw [hW]; exact Blk.new _ _ _)
  have c5 := HK.out.cell 5
  have c6 := HK.out.cell 6
  have c7 := HK.out.cell 7
  have c8 := HK.out.cell 8
  have c9 := HK.out.cell 9
  have c11 := HK.out.cell 11
  have c12 := HK.out.cell 12
  simp [srcCells] at c5 c6 c7 c8 c9 c11 c12
  rw [hW] at c5 c6 c7 c8 c9 c11 c12
  unfold srcV
  go_enter Tryd.func25, Tryd.ntmps25
  go_wp2_with fail
  go_ret
  exact ⟨rfl, rfl⟩

/-- a part by value -/
def ptV (p kd fi li n : Int) (f : Value) : Value := .agg #[.int .i64 p, .int .i64 kd, .int .i64 fi, .int .i64 li, .int .i64 n, f]

def chkE (F : List UInt8 → Option Nm) (li : Int) (x : Nm) : Int := if li ≤ x.num then 7 else if gdN x.name = false then 9 else if (F x.name).isSome = true then 10 else 0

set_option maxRecDepth 100000 in
set_option maxHeartbeats 3200000 in
theorem ncheck_any (w : World) (b nn : Nat) (F : List UInt8 → Option Nm) (p kd fi li n : Int) (k : FuncId) (cs : Array Value) (x : Nm) (h : NM w b nn F) (hk : ∀ s y, F s = some y → y ≠ noNm) (hx : (x.name.length : Int) ≤ 9223372036854775807) :
    Calls Tryd.prog 49 #[ptV p kd fi li n (.func (.func k) #[] cs), .map (some b), nmV x] w fun e w' => e = .returned (.int .i64 (chkE F li x)) ∧ Below w.heap.size w w' := by
  obtain ⟨E, hE⟩ : ∃ E, E = chkE F li x := ⟨_, rfl⟩
  rw [← hE]
  have HE := Lib.hid hE
  have H := Lib.hid h
  clear hE
  obtain ⟨W1, hW1⟩ : ∃ W, W = w.alloc (.cells #[.int .i64 p, .int .i64 kd, .int .i64 fi, .int .i64 li, .int .i64 n, .func (.func k) #[] cs] 65) := ⟨_, rfl⟩
  obtain ⟨W2, hW2⟩ : ∃ W, W = W1.alloc (.cells #[.string (bs x.name), .int .i64 x.kind, .int .i64 x.num] 45) := ⟨_, rfl⟩
  have hs1 : W1.heap.size = w.heap.size + 1 := by rw [hW1]; simp
  have HB2 : Hid (Below w.heap.size w W2) := Lib.hid (by rw [hW2, hW1]; exact ((Below.refl _ _).alloc (Nat.le_refl _) _).alloc (by simp) _)
  have HP2 : Hid (Blk W2 w.heap.size 65 #[.int .i64 p, .int .i64 kd, .int .i64 fi, .int .i64 li, .int .i64 n, .func (.func k) #[] cs]) := Lib.hid (by
    rw [hW2]
    refine Blk.alloc ?_ _
    rw [hW1]
    exact Blk.new _ _ _)
  have HX2 : Hid (Blk W2 (w.heap.size + 1) 45 #[.string (bs x.name), .int .i64 x.kind, .int .i64 x.num]) := Lib.hid (by rw [hW2]; exact Blk.new_at _ _ _ _ hs1.symm)
  have a3 := HP2.out.cell 3
  have b0 := HX2.out.cell 0
  have b2 := HX2.out.cell 2
  simp at a3 b0 b2
  unfold ptV nmV
  go_enter Tryd.func49, Tryd.ntmps49
  by_cases h1 : li ≤ x.num
  · have HR : Hid (E = 7) := Lib.hid (by rw [HE.out]; simp [chkE, h1])
    clear h
    go_wp2_with fail
    rw [← hW1, ← hW2]
    clear hW1 hW2
    go_wp2_with fail
    go_ret
    exact ⟨by rw [HR.out]; rfl, HB2.out⟩
  · have HR : Hid (E = if gdN x.name = false then 9 else if (F x.name).isSome = true then 10 else 0) := Lib.hid (by rw [HE.out]; simp [chkE, h1])
    clear h
    go_wp2_with fail
    rw [← hW1, ← hW2]
    clear hW1 hW2
    go_wp2_with fail
    refine (isName_any W2 (bs x.name) (by rw [bs_size]; exact hx)).mono ?_
    rintro e w3 ⟨he, hb3⟩
    rw [data_bs] at he
    subst he
    have HB3 := Lib.hid (HB2.out.trans (hb3.mono HB2.out.size))
    have HX3 := Lib.hid (HX2.out.below hb3 HX2.out.lt)
    clear hb3 a3 b0 b2
    have b0 := HX3.out.cell 0
    simp at b0
    cases hnb : nameB x.name with
    | false =>
      have HR2 : Hid (E = 9) := Lib.hid (by rw [HR.out]; simp [gdN, hnb])
      go_wp2_with fail
      go_ret
      exact ⟨by rw [HR2.out]; rfl, HB3.out⟩
    | true =>
      go_wp2_with fail
      refine (Key_any w3 (bs x.name)).mono ?_
      rintro e w4 ⟨he, hb4⟩
      rw [data_bs] at he
      subst he
      have HB4 := Lib.hid (HB3.out.trans (hb4.mono HB3.out.size))
      have HX4 := Lib.hid (HX3.out.below hb4 HX3.out.lt)
      clear hb4 b0
      have b0 := HX4.out.cell 0
      simp at b0
      cases hkb : keyB x.name with
      | true =>
        have HR2 : Hid (E = 9) := Lib.hid (by rw [HR.out]; simp [gdN, hnb, hkb])
        go_wp2_with fail
        go_ret
        exact ⟨by rw [HR2.out]; rfl, HB4.out⟩
      | false =>
        have hN4 := H.out.kept (gb_below HB4.out none) (by simp)
        have hlk := hN4.lookup (bs x.name) (by rw [bs_size]; unfold maxLen; omega)
        rw [data_bs] at hlk
        have hq := run_neq_nm ((F x.name).getD noNm) noNm w4
        have hgd := fun (o1 o2 : Operand) => guard_nm .neq o1 o2 ((F x.name).getD noNm) noNm w4
        have hd : (!decide ((F x.name).getD noNm = noNm)) = (F x.name).isSome := by
          cases hF : F x.name with
          | none => simp
          | some y => simp [hk _ _ hF]
        rw [hd] at hq
        obtain ⟨q, hq0⟩ : ∃ q, q = (F x.name).isSome := ⟨_, rfl⟩
        have HR3 : Hid (E = if q = true then 10 else 0) := Lib.hid (by rw [HR.out, hq0]; simp [gdN, hnb, hkb])
        obtain ⟨V, hV⟩ : ∃ V, V = nmV ((F x.name).getD noNm) := ⟨_, rfl⟩
        rw [← hV] at hq hgd hlk
        rw [← hq0] at hq
        change (binOp .neq 45 V (.agg #[.string ⟨#[]⟩, .int .i64 0, .int .i64 0])).run Tryd.prog w4 = .ok (.bool q) w4 at hq
        change ∀ (o1 o2 : Operand), (eqGuard .neq 45 o1 o2 V (.agg #[.string ⟨#[]⟩, .int .i64 0, .int .i64 0])).run Tryd.prog w4 = .ok () w4 at hgd
        clear hN4 hV hq0 hd
        cases q with
        | false =>
          have HR2 : Hid (E = 0) := Lib.hid (by rw [HR3.out]; rfl)
          go_wp2_with fail
          go_ret
          exact ⟨by rw [HR2.out]; rfl, HB4.out⟩
        | true =>
          have HR2 : Hid (E = 10) := Lib.hid (by rw [HR3.out]; rfl)
          go_wp2_with fail
          go_ret
          exact ⟨by rw [HR2.out]; rfl, HB4.out⟩

theorem findI_put {t : List Nm} (hr : Rises t) {n : Nm} (hn : findI t n.name = none) (s : List UInt8) : putM (findI t) n.name n s = findI (putN t n) s := by
  have hp := hr.put hn
  unfold putM
  by_cases e : s = n.name
  · subst e
    rw [if_pos rfl, hp.find (putN_mem.2 (.inl rfl))]
  · rw [if_neg e]
    cases hf : findI t s with
    | none =>
      symm
      rw [findI_none] at hf ⊢
      intro x hx
      rcases putN_mem.1 hx with rfl | hx
      · exact fun e2 => e e2.symm
      · exact hf x hx
    | some y =>
      obtain ⟨h1, h2⟩ := findI_some hf
      have := hp.find (putN_mem.2 (.inr h1) : y ∈ putN t n)
      rw [h2] at this
      exact this.symm

theorem gb_setRow {a w : World} {row : Option Nat} (h : a.grownBy w row) {g : Nat} (hg : a.heap.size ≤ g) (cs : Array Value) : a.grownBy (w.setRow g cs) row :=
  ⟨h.os, h.tape, h.output, by rw [size_setRow]; exact h.size, fun k hk hne => (setRow_other w g k cs (by omega)).trans (h.block k hk hne)⟩

theorem gb_setRow_at (w : World) (g : Nat) (cs : Array Value) : w.grownBy (w.setRow g cs) (some g) :=
  ⟨rfl, rfl, rfl, by rw [size_setRow]; exact Nat.le_refl _, fun k hk hne => setRow_other w g k cs (fun e => hne (by rw [e]))⟩

theorem chk_err (u : List Nm) (p kd fi li : Int) (j : Nat) (x : List UInt8) : chkE (findI u) li ⟨x, kd, fi + (j : Int)⟩ = errE gdN u ⟨x, kd, p, j, (j : Int) + fi, li - fi⟩ := by
  unfold chkE errE
  have e : li ≤ fi + (j : Int) ↔ li - fi ≤ (j : Int) := by omega
  by_cases h : li ≤ fi + (j : Int)
  · rw [if_pos h, if_pos (e.1 h)]
  · rw [if_neg h, if_neg (fun h2 => h (e.2 h2))]

theorem pt_size : (Tryd.prog.info? 65).map (·.size) = some 6 := by kernel_rfl

set_option maxRecDepth 100000 in
set_option maxHeartbeats 12800000 in
theorem ndecl_any (w : World) (b nn : Nat) (t : List Nm) (p kd fi li : Int) (n : Nat) (k : FuncId) (cs : Array Value) (ls : List (List UInt8)) (h : NM w b nn (findI t)) (hri : Rises t) (hkn : ∀ y ∈ t, y ≠ noNm) (hn : ls.length = n) (hnn : nn + n ≤ 1000000) (hN : Nmr w b k cs ls)
    (hkd : kd ≠ 0) (hf0 : 0 ≤ fi) (hf1 : fi ≤ 1000) (hls : ∀ s ∈ ls, (s.length : Int) ≤ 9223372036854775807) :
    Calls Tryd.prog 26 #[ptV p kd fi li (n : Int) (.func (.func k) #[] cs), .map (some b)] w fun e w' => e = .returned (fauV (makeF gdN t (entF kd p fi (li - fi) 0 ls)).2) ∧
      ((makeF gdN t (entF kd p fi (li - fi) 0 ls)).2.1 = 0 → ∃ nn', nn' ≤ nn + n ∧ NM w' b nn' (findI (makeF gdN t (entF kd p fi (li - fi) 0 ls)).1)) ∧ w.grownBy w' (some b) := by
  obtain ⟨R, hR⟩ : ∃ R, R = makeF gdN t (entF kd p fi (li - fi) 0 ls) := ⟨_, rfl⟩
  rw [← hR]
  have HR : Hid (R = makeF gdN t (entF kd p fi (li - fi) 0 (ls.drop 0))) := Lib.hid hR
  have HN0 := Lib.hid hN
  have HLS := Lib.hid hls
  have HLN := Lib.hid hn
  have hbl := h.lt
  have hent := hN.1.run
  clear hR hls hn
  obtain ⟨W1, hW1⟩ : ∃ W, W = w.alloc (.cells #[.int .i64 p, .int .i64 kd, .int .i64 fi, .int .i64 li, .int .i64 (n : Int), .func (.func k) #[] cs] 65) := ⟨_, rfl⟩
  obtain ⟨W, hW2⟩ : ∃ W, W = W1.alloc (.cells #[.int .i64 0, .int .i64 0, .int .i64 0, .string ⟨#[]⟩] 30) := ⟨_, rfl⟩
  have hs1 : W1.heap.size = w.heap.size + 1 := by rw [hW1]; simp
  have hs2 : W.heap.size = w.heap.size + 2 := by rw [hW2]; simp [hs1]
  have HBW : Hid (Below w.heap.size w W) := Lib.hid (by rw [hW2, hW1]; exact ((Below.refl _ _).alloc (Nat.le_refl _) _).alloc (by simp) _)
  have HP0 : Hid (Blk W w.heap.size 65 #[.int .i64 p, .int .i64 kd, .int .i64 fi, .int .i64 li, .int .i64 (n : Int), .func (.func k) #[] cs]) := Lib.hid (by
    rw [hW2]
    refine Blk.alloc ?_ _
    rw [hW1]
    exact Blk.new _ _ _)
  have HF0 : Hid (Blk W (w.heap.size + 1) 30 #[.int .i64 0, .int .i64 0, .int .i64 0, .string ⟨#[]⟩]) := Lib.hid (by rw [hW2]; exact Blk.new_at _ _ _ _ hs1.symm)
  have HM0 : Hid (NM W b nn (findI t)) := Lib.hid (h.below HBW.out)
  have HG0 : Hid (w.grownBy W (some b)) := Lib.hid (gb_below HBW.out _)
  have HS2 := Lib.hid hs2
  have HRI0 := Lib.hid hri
  have HKN0 := Lib.hid hkn
  have HB9 := Lib.hid hbl
  clear h hN hri hkn
  unfold ptV
  have a4 := HP0.out.cell 4
  simp at a4
  go_enter Tryd.func26, Tryd.ntmps26
  go_wp2_with fail
  rw [← hW1, ← hW2]
  clear hW1 hW2
  go_wp2_with fail
  clear a4
  go_loopw [10] (fun vi wr => ∃ (j mm : Nat) (u : List Nm), j ≤ n ∧ vi = .int .i64 j ∧ mm ≤ nn + j ∧ Hid (NM wr b mm (findI u)) ∧ Hid (Rises u) ∧ Hid (∀ y ∈ u, y ≠ noNm) ∧ Hid (R = makeF gdN u (entF kd p fi (li - fi) j (ls.drop j))) ∧ Hid (W.grownBy wr (some b))) (fun vi _ => n - (intOf vi).toNat)
  case atStart => exact ⟨0, nn, t, Nat.zero_le _, rfl, by omega, HM0, HRI0, HKN0, HR, Lib.hid (World.grownBy.refl W _)⟩
  case round =>
    clear HR HM0 HRI0 HKN0
    obtain ⟨j, mm, u, hj, rfl, hmm, HM, HRI, HKN, HR, HG⟩ := hrel
    have HPW : Hid (Blk wr w.heap.size 65 #[.int .i64 p, .int .i64 kd, .int .i64 fi, .int .i64 li, .int .i64 (n : Int), .func (.func k) #[] cs]) := Lib.hid (HP0.out.grown HG.out (some_ne (by have := HB9.out; omega)))
    have HFW : Hid (Blk wr (w.heap.size + 1) 30 #[.int .i64 0, .int .i64 0, .int .i64 0, .string ⟨#[]⟩]) := Lib.hid (HF0.out.grown HG.out (some_ne (by have := HB9.out; omega)))
    have HWG : Hid (w.grownBy wr (some b)) := Lib.hid (HG0.out.trans HG.out)
    have HWS : Hid (w.heap.size + 2 ≤ wr.heap.size) := Lib.hid (by have h1 := HG.out.size; have h2 := HS2.out; omega)
    by_cases hlt : j < n
    · obtain ⟨x, hx⟩ : ∃ x, x = ls[j]?.getD [] := ⟨_, rfl⟩
      have hjl : j < ls.length := by rw [HLN.out]; exact hlt
      have hdr : ls.drop j = x :: ls.drop (j + 1) := by rw [hx, List.getElem?_eq_getElem hjl, List.drop_eq_getElem_cons hjl]; rfl
      have HXL : Hid ((x.length : Int) ≤ 9223372036854775807) := Lib.hid (HLS.out x (by rw [hx, List.getElem?_eq_getElem hjl]; exact List.getElem_mem _))
      have HER : Hid (R = if errE gdN u ⟨x, kd, p, j, (j : Int) + fi, li - fi⟩ = 0 then makeF gdN (putN u ⟨x, kd, (j : Int) + fi⟩) (entF kd p fi (li - fi) (j + 1) (ls.drop (j + 1))) else ([], (errE gdN u ⟨x, kd, p, j, (j : Int) + fi, li - fi⟩, p, (j : Int), x))) := Lib.hid (by rw [HR.out, hdr]; rfl)
      have HCL : Hid (∀ v, w.grownBy v (some b) → Calls Tryd.prog k (#[.int .i64 (j : Int)] ++ cs) v fun e w'' => e = .returned (.string (bs x)) ∧ w'' = v) := Lib.hid (fun v hv => by rw [hx]; exact HN0.out.2 v hv j hjl)
      clear hx hdr
      have wq : IntKind.i64.wrap (fi + (j : Int)) = fi + (j : Int) := by rw [IntKind.wrap_i64]; omega
      have wq2 : wrap64 (fi + (j : Int)) = fi + (j : Int) := IntWalk.wrap64_in _ (by omega)
      have p0 := HPW.out.cell 0
      have p4 := HPW.out.cell 4
      simp at p0 p4
      have hcell : ∀ v, Below wr.heap.size wr v → v.cell? ⟨w.heap.size, 1, none⟩ = some (.int .i64 kd) ∧ v.cell? ⟨w.heap.size, 2, none⟩ = some (.int .i64 fi) ∧ v.cell? ⟨w.heap.size, 5, none⟩ = some (.func (.func k) #[] cs) := fun v hv => by
        have hb := HPW.out.below hv HPW.out.lt
        exact ⟨by rw [hb.cell 1]; rfl, by rw [hb.cell 2]; rfl, by rw [hb.cell 5]; rfl⟩
      have HCE := Lib.hid hcell
      go_wp2_with fail
      clear hcell
      refine wp_region_held_drew (S := Below wr.heap.size wr) (by kernel_rfl) (Below.refl _ wr).drew (fun hHeld => ?_)
      refine held_take (i := 0) (fuel := 12) (v := ?_) (by rw [List.getElem?_toArray]; rfl) (by kernel_rfl) (by kernel_rfl) (by kernel_rfl) hHeld ?_ ?_ ?_ ?_
      rotate_left
      · intro u9 hSw
        go_simp
        try with_reducible rfl
      · rfl
      · exact fun _ _ _ h => h
      try simp only [Act.put, List.setIfInBounds_toArray, List.set_cons_zero, List.set_cons_succ]
      refine held_take (i := 1) (fuel := 11) (v := ?_) (by rw [List.getElem?_toArray]; rfl) (by kernel_rfl) (by kernel_rfl) (by kernel_rfl) hHeld ?_ ?_ ?_ ?_
      rotate_left
      · intro u9 hSw
        obtain ⟨k1, k2, k5⟩ := HCE.out u9 hSw
        go_simp
        try with_reducible rfl
      · rfl
      · exact fun _ _ _ h => h
      try simp only [Act.put, List.setIfInBounds_toArray, List.set_cons_zero, List.set_cons_succ]
      refine held_take (i := 2) (fuel := 10) (v := ?_) (by rw [List.getElem?_toArray]; rfl) (by kernel_rfl) (by kernel_rfl) (by kernel_rfl) hHeld ?_ ?_ ?_ ?_
      rotate_left
      · intro u9 hSw
        go_simp
        try with_reducible rfl
      · rfl
      · exact fun _ _ _ h => h
      try simp only [Act.put, List.setIfInBounds_toArray, List.set_cons_zero, List.set_cons_succ]
      refine held_take (i := 4) (fuel := 9) (v := ?_) (by rw [List.getElem?_toArray]; rfl) (by kernel_rfl) (by kernel_rfl) (by kernel_rfl) hHeld ?_ ?_ ?_ ?_
      rotate_left
      · intro u9 hSw
        go_simp
        try with_reducible rfl
      · rfl
      · exact fun _ _ _ h => h
      try simp only [Act.put, List.setIfInBounds_toArray, List.set_cons_zero, List.set_cons_succ]
      refine held_take (i := 5) (fuel := 8) (v := ?_) (by rw [List.getElem?_toArray]; rfl) (by kernel_rfl) (by kernel_rfl) (by kernel_rfl) hHeld ?_ ?_ ?_ ?_
      rotate_left
      · intro u9 hSw
        obtain ⟨k1, k2, k5⟩ := HCE.out u9 hSw
        go_simp
        try with_reducible rfl
      · rfl
      · exact fun _ _ _ h => h
      try simp only [Act.put, List.setIfInBounds_toArray, List.set_cons_zero, List.set_cons_succ]
      refine held_take (i := 6) (fuel := 7) (v := ?_) (by rw [List.getElem?_toArray]; rfl) (by kernel_rfl) (by kernel_rfl) (by kernel_rfl) hHeld ?_ ?_ ?_ ?_
      rotate_left
      · intro u9 hSw
        go_simp
        try with_reducible rfl
      · rfl
      · exact fun _ _ _ h => h
      try simp only [Act.put, List.setIfInBounds_toArray, List.set_cons_zero, List.set_cons_succ]
      refine held_take (i := 7) (fuel := 6) (v := ?_) (by rw [List.getElem?_toArray]; rfl) (by kernel_rfl) (by kernel_rfl) (by kernel_rfl) hHeld ?_ ?_ ?_ ?_
      rotate_left
      · intro u9 hSw
        obtain ⟨k1, k2, k5⟩ := HCE.out u9 hSw
        go_simp
        try with_reducible rfl
      · rfl
      · exact fun _ _ _ h => h
      try simp only [Act.put, List.setIfInBounds_toArray, List.set_cons_zero, List.set_cons_succ]
      refine held_take (i := 8) (fuel := 5) (v := ?_) (by rw [List.getElem?_toArray]; rfl) (by kernel_rfl) (by kernel_rfl) (by kernel_rfl) hHeld ?_ ?_ ?_ ?_
      rotate_left
      · intro u9 hSw
        go_simp
        try with_reducible rfl
      · rfl
      · exact fun _ _ _ h => h
      try simp only [Act.put, List.setIfInBounds_toArray, List.set_cons_zero, List.set_cons_succ]
      refine held_take (i := 9) (fuel := 4) (v := ?_) (by rw [List.getElem?_toArray]; rfl) (by kernel_rfl) (by kernel_rfl) (by kernel_rfl) hHeld ?_ ?_ ?_ ?_
      rotate_left
      · intro u9 hSw
        go_simp
        try with_reducible rfl
      · rfl
      · exact fun _ _ _ h => h
      try simp only [Act.put, List.setIfInBounds_toArray, List.set_cons_zero, List.set_cons_succ]
      refine wpAnyH_ready (rs := [3, 11]) (fuel := 3) (by kernel_rfl) (by simp) ?_
      refine AllReadyH.cons (by rw [List.getElem?_toArray]; rfl) (fun K hK => ?_) ?_
      ·
        go_simp
        refine (HCL.out _ (HWG.out.trans (gb_below hHeld _))).mono ?_
        rintro e w2 ⟨rfl, rfl⟩
        refine hK.out _ _ ?_ (fun hHeld => ?_)
        · exact hHeld
        clear hK K
        try simp only [Act.put, List.setIfInBounds_toArray, List.set_cons_zero, List.set_cons_succ]
        refine held_take (i := 10) (fuel := 2) (v := ?_) (by rw [List.getElem?_toArray]; rfl) (by kernel_rfl) (by kernel_rfl) (by kernel_rfl) hHeld ?_ ?_ ?_ ?_
        rotate_left
        · intro u9 hSw
          go_simp
          try with_reducible rfl
        · rfl
        · exact fun _ _ _ h => h
        try simp only [Act.put, List.setIfInBounds_toArray, List.set_cons_zero, List.set_cons_succ]
        refine held_one (i := 11) (fuel := 1) (by kernel_rfl) (by rw [List.getElem?_toArray]; rfl) (fun K hK => ?_)
        go_simp
        refine hK.out _ _ ?_ (fun hHeld => ?_)
        · exact hHeld.alloc hHeld.size _
        clear hK K
        try simp only [Act.put, List.setIfInBounds_toArray, List.set_cons_zero, List.set_cons_succ]
        refine held_one (i := 12) (fuel := 0) (by kernel_rfl) (by rw [List.getElem?_toArray]; rfl) (fun K hK => ?_)
        go_simp
        skip
        refine hK.out _ _ ?_ (fun hHeld => ?_)
        · exact ((Below.refl _ wr).alloc (Nat.le_refl _) _).drew
        clear hK K
        try simp only [Act.put, List.setIfInBounds_toArray, List.set_cons_zero, List.set_cons_succ]
        refine wpAnyH_done (by kernel_rfl) ?_ _
        obtain ⟨w8, hw8⟩ : ∃ w8, w8 = (wr.alloc (.cells #[.string (bs x), .int .i64 kd, .int .i64 (fi + (j : Int))] 45)).drew := ⟨_, rfl⟩
        have HB8 : Hid (Below wr.heap.size wr w8) := Lib.hid (by rw [hw8]; exact ((Below.refl _ wr).alloc (Nat.le_refl _) _).drew)
        have HX8 : Hid (Blk w8 wr.heap.size 45 #[.string (bs x), .int .i64 kd, .int .i64 (fi + (j : Int))]) := Lib.hid (by rw [hw8]; exact Blk.new wr _ _)
        rw [← hw8]
        clear hw8 hHeld p0 p4
        have HP8 := Lib.hid (HPW.out.below HB8.out HPW.out.lt)
        have a0 := HP8.out.cell 0
        have a1 := HP8.out.cell 1
        have a2 := HP8.out.cell 2
        have a3 := HP8.out.cell 3
        have a4 := HP8.out.cell 4
        have a5 := HP8.out.cell 5
        have b0 := HX8.out.cell 0
        have b1 := HX8.out.cell 1
        have b2 := HX8.out.cell 2
        simp at a0 a1 a2 a3 a4 a5 b0 b1 b2
        go_wp2_with fail
        refine (ncheck_any w8 b mm (findI u) p kd fi li n k cs ⟨x, kd, fi + (j : Int)⟩ (HM.out.below HB8.out) (fun s y hs => HKN.out y (findI_some hs).1) HXL.out).mono ?_
        rintro e w9 ⟨he, hb9⟩
        rw [chk_err u p] at he
        have HB9' := Lib.hid (HB8.out.trans (hb9.mono HB8.out.size))
        have HX9 := Lib.hid (HX8.out.below hb9 HX8.out.lt)
        have HP9 := Lib.hid (HP8.out.below hb9 HP8.out.lt)
        have HF9 := Lib.hid (HFW.out.below HB9'.out HFW.out.lt)
        have HM9 := Lib.hid (HM.out.below HB9'.out)
        have HW9 : Hid (w.grownBy w9 (some b)) := Lib.hid (HWG.out.trans (gb_below HB9'.out _))
        have HS9 : Hid (w.heap.size + 2 ≤ w9.heap.size) := Lib.hid (Nat.le_trans HWS.out HB9'.out.size)
        clear hb9 a0 a1 a2 a3 a4 a5 b0 b1 b2
        have a0 := HP9.out.cell 0
        have b0 := HX9.out.cell 0
        have b1 := HX9.out.cell 1
        have b2 := HX9.out.cell 2
        simp at a0 b0 b1 b2
        obtain ⟨E, hE⟩ : ∃ E, E = errE gdN u ⟨x, kd, p, j, (j : Int) + fi, li - fi⟩ := ⟨_, rfl⟩
        have HRE : Hid (R = if E = 0 then makeF gdN (putN u ⟨x, kd, (j : Int) + fi⟩) (entF kd p fi (li - fi) (j + 1) (ls.drop (j + 1))) else ([], (E, p, (j : Int), x))) := Lib.hid (by rw [hE]; exact HER.out)
        have HEE := Lib.hid hE
        rw [← hE] at he
        subst he
        clear hE
        by_cases h0 : E = 0
        · subst h0
          have HRN : Hid (R = makeF gdN (putN u ⟨x, kd, (j : Int) + fi⟩) (entF kd p fi (li - fi) (j + 1) (ls.drop (j + 1)))) := Lib.hid (by rw [HRE.out]; rfl)
          have HFN : Hid (findI u x = none) := Lib.hid (errE_zero HEE.out.symm).2.2
          go_wp2_with (first | (at_mapUpdate; refine wpList_putN rfl _ _ _ rfl b _ _ rfl HM9.out (by unfold maxLen; omega) (bs x) (by rw [bs_size]; unfold maxLen; have := HXL.out; omega) ⟨x, kd, fi + (j : Int)⟩ rfl rfl ?_; intro w10 h10 hg10) | go_in)
          have HM10 : Hid (NM w10 b (mm + 1) (findI (putN u ⟨x, kd, (j : Int) + fi⟩))) := Lib.hid (by
            rw [data_bs] at h10
            refine h10.congr fun s => ?_
            rw [Int.add_comm fi]
            exact findI_put HRI.out (n := ⟨x, kd, (j : Int) + fi⟩) HFN.out s)
          have HG10 : Hid (W.grownBy w10 (some b)) := Lib.hid ((HG.out.trans (gb_below HB9'.out _)).trans hg10)
          have HRI10 := Lib.hid (HRI.out.put (n := ⟨x, kd, (j : Int) + fi⟩) HFN.out)
          have HKN10 : Hid (∀ y ∈ putN u ⟨x, kd, (j : Int) + fi⟩, y ≠ noNm) := Lib.hid (fun y hy => by
            rcases putN_mem.1 hy with rfl | hy
            · intro e
              exact hkd (congrArg Nm.kind e)
            · exact HKN.out y hy)
          clear h10 hg10 a0 b0 b1 b2
          go_wp2_with fail
          go_roundw
          case rel => exact ⟨j + 1, mm + 1, _, by omega, by go_num, by omega, HM10, HRI10, HKN10, HRN, HG10⟩
          case measure => simp [intOf]; omega
        · have HRN : Hid (R = ([], (E, p, (j : Int), x))) := Lib.hid (by rw [HRE.out, if_neg h0])
          have q0 : (E != 0) = true := by simp [h0]
          go_wp2_with (refine wpList_store_row rfl 30 _ _ rfl (w.heap.size + 1) #[.int .i64 E, .int .i64 p, .int .i64 (j : Int), .string (bs x)] rfl rfl _ _ HF9.out fau_size rfl (fau_one _ _ _ _) ?_)
          (try simp only [Exit.inBlock, Exit.then]); refine bodyPost_ret (results_cell_row rfl _ _ _ _ _ _ _ rfl (setRow_heap _ _ _ _ _ _ HF9.out) Tryd.underlying30 rfl (by kernel_rfl)) rfl ?_
          rw [HRN.out]
          exact ⟨rfl, fun h => absurd h h0, gb_setRow HW9.out (by omega) _⟩
      refine AllReadyH.cons (by rw [List.getElem?_toArray]; rfl) (fun K hK => ?_) ?_
      ·
        go_simp
        refine hK.out _ _ ?_ (fun hHeld => ?_)
        · exact hHeld.alloc hHeld.size _
        clear hK K
        try simp only [Act.put, List.setIfInBounds_toArray, List.set_cons_zero, List.set_cons_succ]
        refine held_one (i := 3) (fuel := 2) (by kernel_rfl) (by rw [List.getElem?_toArray]; rfl) (fun K hK => ?_)
        go_simp
        refine (HCL.out _ (HWG.out.trans (gb_below hHeld _))).mono ?_
        rintro e w2 ⟨rfl, rfl⟩
        refine hK.out _ _ ?_ (fun hHeld => ?_)
        · exact hHeld
        clear hK K
        try simp only [Act.put, List.setIfInBounds_toArray, List.set_cons_zero, List.set_cons_succ]
        refine held_take (i := 10) (fuel := 1) (v := ?_) (by rw [List.getElem?_toArray]; rfl) (by kernel_rfl) (by kernel_rfl) (by kernel_rfl) hHeld ?_ ?_ ?_ ?_
        rotate_left
        · intro u9 hSw
          go_simp
          try with_reducible rfl
        · rfl
        · exact fun _ _ _ h => h
        try simp only [Act.put, List.setIfInBounds_toArray, List.set_cons_zero, List.set_cons_succ]
        refine held_one (i := 12) (fuel := 0) (by kernel_rfl) (by rw [List.getElem?_toArray]; rfl) (fun K hK => ?_)
        go_simp
        skip
        refine hK.out _ _ ?_ (fun hHeld => ?_)
        · exact ((Below.refl _ wr).alloc (Nat.le_refl _) _).drew
        clear hK K
        try simp only [Act.put, List.setIfInBounds_toArray, List.set_cons_zero, List.set_cons_succ]
        refine wpAnyH_done (by kernel_rfl) ?_ _
        obtain ⟨w8, hw8⟩ : ∃ w8, w8 = (wr.alloc (.cells #[.string (bs x), .int .i64 kd, .int .i64 (fi + (j : Int))] 45)).drew := ⟨_, rfl⟩
        have HB8 : Hid (Below wr.heap.size wr w8) := Lib.hid (by rw [hw8]; exact ((Below.refl _ wr).alloc (Nat.le_refl _) _).drew)
        have HX8 : Hid (Blk w8 wr.heap.size 45 #[.string (bs x), .int .i64 kd, .int .i64 (fi + (j : Int))]) := Lib.hid (by rw [hw8]; exact Blk.new wr _ _)
        rw [← hw8]
        clear hw8 hHeld p0 p4
        have HP8 := Lib.hid (HPW.out.below HB8.out HPW.out.lt)
        have a0 := HP8.out.cell 0
        have a1 := HP8.out.cell 1
        have a2 := HP8.out.cell 2
        have a3 := HP8.out.cell 3
        have a4 := HP8.out.cell 4
        have a5 := HP8.out.cell 5
        have b0 := HX8.out.cell 0
        have b1 := HX8.out.cell 1
        have b2 := HX8.out.cell 2
        simp at a0 a1 a2 a3 a4 a5 b0 b1 b2
        go_wp2_with fail
        refine (ncheck_any w8 b mm (findI u) p kd fi li n k cs ⟨x, kd, fi + (j : Int)⟩ (HM.out.below HB8.out) (fun s y hs => HKN.out y (findI_some hs).1) HXL.out).mono ?_
        rintro e w9 ⟨he, hb9⟩
        rw [chk_err u p] at he
        have HB9' := Lib.hid (HB8.out.trans (hb9.mono HB8.out.size))
        have HX9 := Lib.hid (HX8.out.below hb9 HX8.out.lt)
        have HP9 := Lib.hid (HP8.out.below hb9 HP8.out.lt)
        have HF9 := Lib.hid (HFW.out.below HB9'.out HFW.out.lt)
        have HM9 := Lib.hid (HM.out.below HB9'.out)
        have HW9 : Hid (w.grownBy w9 (some b)) := Lib.hid (HWG.out.trans (gb_below HB9'.out _))
        have HS9 : Hid (w.heap.size + 2 ≤ w9.heap.size) := Lib.hid (Nat.le_trans HWS.out HB9'.out.size)
        clear hb9 a0 a1 a2 a3 a4 a5 b0 b1 b2
        have a0 := HP9.out.cell 0
        have b0 := HX9.out.cell 0
        have b1 := HX9.out.cell 1
        have b2 := HX9.out.cell 2
        simp at a0 b0 b1 b2
        obtain ⟨E, hE⟩ : ∃ E, E = errE gdN u ⟨x, kd, p, j, (j : Int) + fi, li - fi⟩ := ⟨_, rfl⟩
        have HRE : Hid (R = if E = 0 then makeF gdN (putN u ⟨x, kd, (j : Int) + fi⟩) (entF kd p fi (li - fi) (j + 1) (ls.drop (j + 1))) else ([], (E, p, (j : Int), x))) := Lib.hid (by rw [hE]; exact HER.out)
        have HEE := Lib.hid hE
        rw [← hE] at he
        subst he
        clear hE
        by_cases h0 : E = 0
        · subst h0
          have HRN : Hid (R = makeF gdN (putN u ⟨x, kd, (j : Int) + fi⟩) (entF kd p fi (li - fi) (j + 1) (ls.drop (j + 1)))) := Lib.hid (by rw [HRE.out]; rfl)
          have HFN : Hid (findI u x = none) := Lib.hid (errE_zero HEE.out.symm).2.2
          go_wp2_with (first | (at_mapUpdate; refine wpList_putN rfl _ _ _ rfl b _ _ rfl HM9.out (by unfold maxLen; omega) (bs x) (by rw [bs_size]; unfold maxLen; have := HXL.out; omega) ⟨x, kd, fi + (j : Int)⟩ rfl rfl ?_; intro w10 h10 hg10) | go_in)
          have HM10 : Hid (NM w10 b (mm + 1) (findI (putN u ⟨x, kd, (j : Int) + fi⟩))) := Lib.hid (by
            rw [data_bs] at h10
            refine h10.congr fun s => ?_
            rw [Int.add_comm fi]
            exact findI_put HRI.out (n := ⟨x, kd, (j : Int) + fi⟩) HFN.out s)
          have HG10 : Hid (W.grownBy w10 (some b)) := Lib.hid ((HG.out.trans (gb_below HB9'.out _)).trans hg10)
          have HRI10 := Lib.hid (HRI.out.put (n := ⟨x, kd, (j : Int) + fi⟩) HFN.out)
          have HKN10 : Hid (∀ y ∈ putN u ⟨x, kd, (j : Int) + fi⟩, y ≠ noNm) := Lib.hid (fun y hy => by
            rcases putN_mem.1 hy with rfl | hy
            · intro e
              exact hkd (congrArg Nm.kind e)
            · exact HKN.out y hy)
          clear h10 hg10 a0 b0 b1 b2
          go_wp2_with fail
          go_roundw
          case rel => exact ⟨j + 1, mm + 1, _, by omega, by go_num, by omega, HM10, HRI10, HKN10, HRN, HG10⟩
          case measure => simp [intOf]; omega
        · have HRN : Hid (R = ([], (E, p, (j : Int), x))) := Lib.hid (by rw [HRE.out, if_neg h0])
          have q0 : (E != 0) = true := by simp [h0]
          go_wp2_with (refine wpList_store_row rfl 30 _ _ rfl (w.heap.size + 1) #[.int .i64 E, .int .i64 p, .int .i64 (j : Int), .string (bs x)] rfl rfl _ _ HF9.out fau_size rfl (fau_one _ _ _ _) ?_)
          (try simp only [Exit.inBlock, Exit.then]); refine bodyPost_ret (results_cell_row rfl _ _ _ _ _ _ _ rfl (setRow_heap _ _ _ _ _ _ HF9.out) Tryd.underlying30 rfl (by kernel_rfl)) rfl ?_
          rw [HRN.out]
          exact ⟨rfl, fun h => absurd h h0, gb_setRow HW9.out (by omega) _⟩
      exact AllReadyH.nil
    · have HE : Hid (R = (u, (0, 0, 0, []))) := Lib.hid (by rw [HR.out, List.drop_of_length_le (by rw [HLN.out]; omega)]; rfl)
      go_wp2_with (refine wpList_store_row rfl 30 _ _ rfl (w.heap.size + 1) #[.int .i64 0, .int .i64 0, .int .i64 0, .string ⟨#[]⟩] rfl rfl _ _ HFW.out fau_size rfl (fau_one _ _ _ _) ?_)
      (try simp only [Exit.inBlock, Exit.then]); refine bodyPost_ret (results_cell_row rfl _ _ _ _ _ _ _ rfl (setRow_heap _ _ _ _ _ _ HFW.out) Tryd.underlying30 rfl (by kernel_rfl)) rfl ?_
      rw [HE.out]
      exact ⟨rfl, fun _ => ⟨mm, by omega, HM.out.kept (gb_setRow_at wr (w.heap.size + 1) _) (some_ne (by have := HB9.out; omega))⟩, gb_setRow HWG.out (by omega) _⟩

end Go.Proofs.YtgeglhgkibcpfaaDoor
