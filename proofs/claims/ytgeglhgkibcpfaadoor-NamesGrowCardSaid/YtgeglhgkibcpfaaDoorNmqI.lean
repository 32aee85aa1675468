/- Contract of the program's Make. -/
import Derived.Test.YtgeglhgkibcpfaaDoorNmqE
import Derived.Test.YtgeglhgkibcpfaaDoorNmqH
import Derived.Test.YtgeglhgkibcpfaaDoorNmqS
import Derived.Test.YtgeglhgkibcpfaaDoorLexI
namespace Go.Proofs.YtgeglhgkibcpfaaDoor
open Go.RowKit
set_option linter.unusedVariables false

/- the parts, by their places -/
def pP : Nat → Int
  | 0 => 2
  | 1 => 3
  | 2 => 4
  | 3 => 5
  | 4 => 6
  | 5 => 8
  | _ => 9
def pK : Nat → Int
  | 0 => 1
  | 1 => 2
  | 2 => 3
  | 3 => 4
  | 4 => 5
  | 5 => 6
  | _ => 7
def pF : Nat → Int
  | 0 => 4
  | 1 => 0
  | 2 => 0
  | 3 => 2
  | 4 => 0
  | 5 => 0
  | _ => 0
def pL : Nat → Int
  | 0 => 16
  | 1 => 16
  | 2 => 64
  | 3 => 128
  | 4 => 64
  | 5 => 64
  | _ => 16
def pC : Nat → FuncId
  | 0 => 42
  | 1 => 43
  | 2 => 44
  | 3 => 45
  | 4 => 46
  | 5 => 47
  | _ => 48
def pN (X : Src) : Nat → Nat
  | 0 => X.n0
  | 1 => X.n1
  | 2 => X.n2
  | 3 => X.n3
  | 4 => X.n4
  | 5 => X.n6
  | _ => X.n7
def pS (d : Dl) : Nat → List (List UInt8)
  | 0 => d.fl
  | 1 => d.pr
  | 2 => d.gl
  | 3 => d.ob
  | 4 => d.ve
  | 5 => d.fu
  | _ => d.da
/-- what is still to be declared -/
def restE (d : Dl) : Nat → List En
  | 0 => entF 1 2 4 12 0 d.fl ++ (entF 2 3 0 16 0 d.pr ++ (entF 3 4 0 64 0 d.gl ++ (entF 4 5 2 126 0 d.ob ++ (entF 5 6 0 64 0 d.ve ++ (entF 6 8 0 64 0 d.fu ++ (entF 7 9 0 16 0 d.da))))))
  | 1 => entF 2 3 0 16 0 d.pr ++ (entF 3 4 0 64 0 d.gl ++ (entF 4 5 2 126 0 d.ob ++ (entF 5 6 0 64 0 d.ve ++ (entF 6 8 0 64 0 d.fu ++ (entF 7 9 0 16 0 d.da)))))
  | 2 => entF 3 4 0 64 0 d.gl ++ (entF 4 5 2 126 0 d.ob ++ (entF 5 6 0 64 0 d.ve ++ (entF 6 8 0 64 0 d.fu ++ (entF 7 9 0 16 0 d.da))))
  | 3 => entF 4 5 2 126 0 d.ob ++ (entF 5 6 0 64 0 d.ve ++ (entF 6 8 0 64 0 d.fu ++ (entF 7 9 0 16 0 d.da)))
  | 4 => entF 5 6 0 64 0 d.ve ++ (entF 6 8 0 64 0 d.fu ++ (entF 7 9 0 16 0 d.da))
  | 5 => entF 6 8 0 64 0 d.fu ++ (entF 7 9 0 16 0 d.da)
  | 6 => entF 7 9 0 16 0 d.da
  | _ => []

theorem rest_all (d : Dl) : restE d 0 = allE d := rfl
theorem rest_step (d : Dl) (j : Nat) (h : j < 7) : restE d j = entF (pK j) (pP j) (pF j) (pL j - pF j) 0 (pS d j) ++ restE d (j + 1) := by
  match j, h with
  | 0, _ => rfl
  | 1, _ => rfl
  | 2, _ => rfl
  | 3, _ => rfl
  | 4, _ => rfl
  | 5, _ => rfl
  | 6, _ =>
    show _ = _ ++ []
    rw [List.append_nil]
    rfl

theorem parts_at (X : Src) (B j : Nat) (h : j < 7) : (partsC X B)[j * 6]? = some (.int .i64 (pP j)) ∧ (partsC X B)[j * 6 + 1]? = some (.int .i64 (pK j)) ∧ (partsC X B)[j * 6 + 2]? = some (.int .i64 (pF j)) ∧
    (partsC X B)[j * 6 + 3]? = some (.int .i64 (pL j)) ∧ (partsC X B)[j * 6 + 4]? = some (.int .i64 (pN X j : Int)) ∧ (partsC X B)[j * 6 + 5]? = some (.func (.func (pC j)) #[] #[.pointer (some ⟨B, 0, none⟩)]) := by
  match j, h with
  | 0, _ => exact ⟨rfl, rfl, rfl, rfl, rfl, rfl⟩
  | 1, _ => exact ⟨rfl, rfl, rfl, rfl, rfl, rfl⟩
  | 2, _ => exact ⟨rfl, rfl, rfl, rfl, rfl, rfl⟩
  | 3, _ => exact ⟨rfl, rfl, rfl, rfl, rfl, rfl⟩
  | 4, _ => exact ⟨rfl, rfl, rfl, rfl, rfl, rfl⟩
  | 5, _ => exact ⟨rfl, rfl, rfl, rfl, rfl, rfl⟩
  | 6, _ => exact ⟨rfl, rfl, rfl, rfl, rfl, rfl⟩

theorem parts_num (j : Nat) (h : j < 7) : pK j ≠ 0 ∧ 0 ≤ pF j ∧ pF j ≤ 1000 := by
  match j, h with
  | 0, _ => decide
  | 1, _ => decide
  | 2, _ => decide
  | 3, _ => decide
  | 4, _ => decide
  | 5, _ => decide
  | 6, _ => decide

theorem parts_len {X : Src} {w : World} {B : Nat} {d : Dl} (h : X.Nam w B d) (j : Nat) (hj : j < 7) : (pS d j).length = pN X j := by
  match j, hj with
  | 0, _ => exact h.fl.1
  | 1, _ => exact h.pr.1
  | 2, _ => exact h.gl.1
  | 3, _ => exact h.ob.1
  | 4, _ => exact h.ve.1
  | 5, _ => exact h.fu.1
  | 6, _ => exact h.da.1

theorem parts_few {d : Dl} (h : cntD d ≤ 50000) (j : Nat) (hj : j < 7) : (pS d j).length ≤ 50000 := by
  unfold cntD at h
  match j, hj with
  | 0, _ => show d.fl.length ≤ 50000; omega
  | 1, _ => show d.pr.length ≤ 50000; omega
  | 2, _ => show d.gl.length ≤ 50000; omega
  | 3, _ => show d.ob.length ≤ 50000; omega
  | 4, _ => show d.ve.length ≤ 50000; omega
  | 5, _ => show d.fu.length ≤ 50000; omega
  | 6, _ => show d.da.length ≤ 50000; omega

theorem entF_name {k p o m : Int} {s : List UInt8} : ∀ {l : List (List UInt8)} {i : Nat}, s ∈ l → ∃ e ∈ entF k p o m i l, e.name = s := by
  intro l
  induction l with
  | nil => intro i h; cases h
  | cons x r ih =>
    intro i h
    rcases List.mem_cons.1 h with rfl | h
    · exact ⟨_, List.mem_cons_self, rfl⟩
    · obtain ⟨e, he, h2⟩ := ih (i := i + 1) h
      exact ⟨e, List.mem_cons_of_mem _ he, h2⟩

theorem parts_names {d : Dl} (h : ∀ e ∈ allE d, (e.name.length : Int) ≤ 9223372036854775807) (j : Nat) (hj : j < 7) : ∀ s ∈ pS d j, (s.length : Int) ≤ 9223372036854775807 := by
  intro s hs
  obtain ⟨e, he, rfl⟩ := entF_name (k := pK j) (p := pP j) (o := pF j) (m := pL j - pF j) (i := 0) hs
  refine h e ?_
  have hall : ∀ i, i ≤ j → e ∈ restE d i := by
    intro i
    induction hi : j - i generalizing i with
    | zero =>
      intro hij
      obtain rfl : i = j := by omega
      rw [rest_step d i hj]
      exact List.mem_append_left _ he
    | succ m ih =>
      intro hij
      rw [rest_step d i (by omega)]
      exact List.mem_append_right _ (ih (i + 1) (by omega) (by omega))
  exact hall 0 (Nat.zero_le _)

theorem makeF_app {gd : List UInt8 → Bool} : ∀ {a b : List En} {t : List Nm}, makeF gd t (a ++ b) = if (makeF gd t a).2.1 = 0 then makeF gd (makeF gd t a).1 b else makeF gd t a := by
  intro a
  induction a with
  | nil => intro b t; rfl
  | cons x r ih =>
    intro b t
    rw [List.cons_append, makeF_cons, makeF_cons]
    by_cases h0 : errE gd t x = 0
    · rw [if_pos h0, if_pos h0]
      exact ih
    · rw [if_neg h0, if_neg h0]
      show _ = if errE gd t x = 0 then _ else _
      rw [if_neg h0]

theorem nmr_of {X : Src} {w : World} {B Bs b : Nat} {d : Dl} (hs : Blk w Bs 39 (srcCells X)) (h : X.Nam w B d) (hB : B ≤ b) (hne : Bs ≠ b) (hsz : B ≤ w.heap.size) (j : Nat) (hj : j < 7) : Nmr w b (pC j) #[.pointer (some ⟨Bs, 0, none⟩)] (pS d j) := by
  have hbl : ∀ v, w.grownBy v (some b) → Below B w v := fun v hv => (Below.refl B w).grown hv hsz (fun k e => by cases e; exact hB)
  match j, hj with
  | 0, _ => exact ⟨enters_np0, fun v hv i hi => nprt0_any X v Bs B d (hs.grown hv (some_ne hne)) (h.below (hbl v hv)) i hi⟩
  | 1, _ => exact ⟨enters_np1, fun v hv i hi => nprt1_any X v Bs B d (hs.grown hv (some_ne hne)) (h.below (hbl v hv)) i hi⟩
  | 2, _ => exact ⟨enters_np2, fun v hv i hi => nprt2_any X v Bs B d (hs.grown hv (some_ne hne)) (h.below (hbl v hv)) i hi⟩
  | 3, _ => exact ⟨enters_np3, fun v hv i hi => nprt3_any X v Bs B d (hs.grown hv (some_ne hne)) (h.below (hbl v hv)) i hi⟩
  | 4, _ => exact ⟨enters_np4, fun v hv i hi => nprt4_any X v Bs B d (hs.grown hv (some_ne hne)) (h.below (hbl v hv)) i hi⟩
  | 5, _ => exact ⟨enters_np5, fun v hv i hi => nprt5_any X v Bs B d (hs.grown hv (some_ne hne)) (h.below (hbl v hv)) i hi⟩
  | 6, _ => exact ⟨enters_np6, fun v hv i hi => nprt6_any X v Bs B d (hs.grown hv (some_ne hne)) (h.below (hbl v hv)) i hi⟩

theorem own_from' {w : World} {base base' : Nat} {e : TypeId} {size : Nat} {v : Value} {k : Nat} {xs : List Value} (h : w.ownsRow base e size v k xs) (hb : base' ≤ base) : w.ownsRow base' e size v k xs := by
  refine ⟨h.1, ?_⟩
  rcases h.2 with hn | ⟨g, cap, cur, hv, hbg, rest⟩
  · exact .inl hn
  · exact .inr ⟨g, cap, cur, hv, Nat.le_trans hb hbg, rest⟩

set_option maxRecDepth 100000 in
set_option maxHeartbeats 12800000 in
theorem pMake_any (X : Src) (w : World) (d : Dl) (hfl : Fl w) (h : X.Nam w w.heap.size d) (hn : cntD d ≤ 50000) (hsh : ∀ e ∈ allE d, (e.name.length : Int) ≤ 9223372036854775807) :
    Calls Tryd.prog 10 #[srcV X] w (OutN w.heap.size 45 w (makeN gdN d)) := by
  obtain ⟨R, hR⟩ : ∃ R, R = makeN gdN d := ⟨_, rfl⟩
  have HR0 : Hid (R = makeF gdN nms0 (restE d 0)) := Lib.hid hR
  rw [← hR]
  clear hR
  have H := Lib.hid h
  have HSH := Lib.hid hsh
  have HNN := Lib.hid hn
  have HFL := Lib.hid hfl
  clear h hsh hn hfl
  obtain ⟨W1, hW1⟩ : ∃ W, W = w.alloc (.cells (srcCells X) 39) := ⟨_, rfl⟩
  obtain ⟨W2, hW2⟩ : ∃ W, W = W1.alloc (.cells #[.int .i64 0, .int .i64 0, .int .i64 0, .string ⟨#[]⟩] 30) := ⟨_, rfl⟩
  have hs1 : W1.heap.size = w.heap.size + 1 := by rw [hW1]; simp
  have hs2 : W2.heap.size = w.heap.size + 2 := by rw [hW2]; simp [hs1]
  have HB2 : Hid (Below w.heap.size w W2) := Lib.hid (by rw [hW2, hW1]; exact ((Below.refl _ _).alloc (Nat.le_refl _) _).alloc (by simp) _)
  have HC2 : Hid (Blk W2 w.heap.size 39 (srcCells X)) := Lib.hid (by
    rw [hW2]
    refine Blk.alloc ?_ _
    rw [hW1]
    exact Blk.new _ _ _)
  have HF2 : Hid (Blk W2 (w.heap.size + 1) 30 #[.int .i64 0, .int .i64 0, .int .i64 0, .string ⟨#[]⟩]) := Lib.hid (by rw [hW2]; exact Blk.new_at _ _ _ _ hs1.symm)
  have HS2 := Lib.hid hs2
  unfold srcV
  go_enter Tryd.func10, Tryd.ntmps10
  go_wp2_with fail
  rw [← hW1, ← hW2]
  clear hW1 hW2
  go_wp2_with fail
  refine (npre_any W2 (HFL.out.below HB2.out (Nat.le_refl _))).mono ?_
  rintro e W3 ⟨rfl, hM3, hB3⟩
  have HC3 := Lib.hid (HC2.out.below hB3 HC2.out.lt)
  have HF3 := Lib.hid (HF2.out.below hB3 HF2.out.lt)
  have HB3 := Lib.hid (HB2.out.trans (hB3.mono HB2.out.size))
  obtain ⟨b, hb⟩ : ∃ b, b = W2.heap.size := ⟨_, rfl⟩
  rw [← hb] at hM3 ⊢
  have HBB : Hid (b = w.heap.size + 2) := Lib.hid (by rw [hb]; exact HS2.out)
  have HM3 := Lib.hid hM3
  clear hB3 hb hM3
  have c0 := HC3.out.cell 0
  have c1 := HC3.out.cell 1
  have c2 := HC3.out.cell 2
  have c3 := HC3.out.cell 3
  have c4 := HC3.out.cell 4
  have c5 := HC3.out.cell 5
  have c6 := HC3.out.cell 6
  have c7 := HC3.out.cell 7
  have c8 := HC3.out.cell 8
  have c9 := HC3.out.cell 9
  have c10 := HC3.out.cell 10
  have c11 := HC3.out.cell 11
  have c12 := HC3.out.cell 12
  simp [srcCells] at c0 c1 c2 c3 c4 c5 c6 c7 c8 c9 c10 c11 c12
  go_wp2_with fail
  refine (nparts_any X W3).mono ?_
  rintro e W4 ⟨rfl, hw4⟩
  clear c0 c1 c2 c3 c4 c5 c6 c7 c8 c9 c10 c11 c12
  have HS3 : Hid (w.heap.size + 3 ≤ W3.heap.size) := Lib.hid (by have := HM3.out.lt; have := HBB.out; omega)
  obtain ⟨Bs, hBs⟩ : ∃ Bs, Bs = W3.heap.size := ⟨_, rfl⟩
  have HBS := Lib.hid hBs
  have hB4 : Below W3.heap.size W3 W4 := by rw [hw4]; exact ((Below.refl _ _).alloc (Nat.le_refl _) _).alloc (by simp) _
  have HX4 : Hid (Blk W4 Bs 39 (srcCells X)) := Lib.hid (by
    rw [hw4, hBs]
    refine Blk.alloc ?_ _
    exact Blk.new _ _ _)
  have HP4 : Hid (Blk W4 (Bs + 1) 65 (partsC X Bs)) := Lib.hid (by rw [hw4, hBs]; exact Blk.new_at _ _ _ _ (by simp))
  have HF4 := Lib.hid (HF3.out.below hB4 HF3.out.lt)
  have HM4 := Lib.hid (HM3.out.below hB4)
  have HB4 := Lib.hid (HB3.out.trans (hB4.mono HB3.out.size))
  have HS4 : Hid (W4.heap.size = Bs + 2) := Lib.hid (by rw [hw4, hBs]; simp)
  rw [← hBs]
  clear hw4 hBs hB4
  obtain ⟨ad, had⟩ : ∃ ad : Addr, ad = ⟨Bs + 1, 0, none⟩ := ⟨_, rfl⟩
  rw [← had]
  have HAD := Lib.hid had
  clear had
  have HNA := Lib.hid (H.out.below HB4.out)
  go_wp2_with fail
  go_loopw [13] (fun vi wr => ∃ (j mm : Nat) (u : List Nm), j ≤ 7 ∧ vi = .int .i64 j ∧ mm ≤ 4 + j * 50000 ∧ Hid (NM wr b mm (findI u)) ∧ Hid (Rises u) ∧ Hid (∀ y ∈ u, y ≠ noNm) ∧ Hid (0 < u.length ∧ u.length ≤ 4 + j * 50000) ∧ Hid (R = makeF gdN u (restE d j)) ∧ Hid (W4.grownBy wr (some b))) (fun vi _ => 7 - (intOf vi).toNat)
  case atStart => exact ⟨0, 4, nms0, by omega, rfl, by omega, HM4, Lib.hid (rises_of (by decide)), Lib.hid (by decide), Lib.hid (by decide), HR0, Lib.hid (World.grownBy.refl W4 _)⟩
  case round =>
    clear HR0 HM4
    obtain ⟨j, mm, u, hj, rfl, hmm, HM, HRI, HKN, HUL, HR, HG⟩ := hrel
    have HX5 : Hid (Blk wr Bs 39 (srcCells X)) := Lib.hid (HX4.out.grown HG.out (some_ne (by have h1 := HBS.out; have h2 := HS3.out; have h3 := HBB.out; omega)))
    have HP5 : Hid (Blk wr (Bs + 1) 65 (partsC X Bs)) := Lib.hid (HP4.out.grown HG.out (some_ne (by have h1 := HBS.out; have h2 := HS3.out; have h3 := HBB.out; omega)))
    have HF5 : Hid (Blk wr (w.heap.size + 1) 30 #[.int .i64 0, .int .i64 0, .int .i64 0, .string ⟨#[]⟩]) := Lib.hid (HF4.out.grown HG.out (some_ne (by have h3 := HBB.out; omega)))
    have HB5 : Hid (Below w.heap.size w wr) := Lib.hid (HB4.out.grown HG.out HB4.out.size (fun k e => by cases e; have h3 := HBB.out; omega))
    have HS5 : Hid (w.heap.size + 5 ≤ wr.heap.size) := Lib.hid (by have h1 := HG.out.size; have h2 := HS4.out; have h3 := HBS.out; have h4 := HS3.out; omega)
    by_cases hlt : j < 7
    · obtain ⟨q0, q1, q2, q3, q4, q5⟩ := parts_at X Bs j hlt
      have a0 : wr.cell? (ad.add (j * 6)) = some (.int .i64 (pP j)) := by rw [HAD.out, Addr.add_lit, Nat.zero_add, HP5.out.cell]; exact q0
      have a1 : wr.cell? ⟨(ad.add (j * 6)).block, (ad.add (j * 6)).off + 1, none⟩ = some (.int .i64 (pK j)) := by rw [HAD.out, Addr.add_lit, Nat.zero_add, HP5.out.cell]; exact q1
      have a2 : wr.cell? ⟨(ad.add (j * 6)).block, (ad.add (j * 6)).off + 2, none⟩ = some (.int .i64 (pF j)) := by rw [HAD.out, Addr.add_lit, Nat.zero_add, HP5.out.cell]; exact q2
      have a3 : wr.cell? ⟨(ad.add (j * 6)).block, (ad.add (j * 6)).off + 3, none⟩ = some (.int .i64 (pL j)) := by rw [HAD.out, Addr.add_lit, Nat.zero_add, HP5.out.cell]; exact q3
      have a4 : wr.cell? ⟨(ad.add (j * 6)).block, (ad.add (j * 6)).off + 4, none⟩ = some (.int .i64 (pN X j : Int)) := by rw [HAD.out, Addr.add_lit, Nat.zero_add, HP5.out.cell]; exact q4
      have a5 : wr.cell? ⟨(ad.add (j * 6)).block, (ad.add (j * 6)).off + 5, none⟩ = some (.func (.func (pC j)) #[] #[.pointer (some ⟨Bs, 0, none⟩)]) := by rw [HAD.out, Addr.add_lit, Nat.zero_add, HP5.out.cell]; exact q5
      obtain ⟨W6, hW6⟩ : ∃ W, W = wr.alloc (.cells #[.int .i64 (pP j), .int .i64 (pK j), .int .i64 (pF j), .int .i64 (pL j), .int .i64 (pN X j : Int), .func (.func (pC j)) #[] #[.pointer (some ⟨Bs, 0, none⟩)]] 65) := ⟨_, rfl⟩
      have HB6 : Hid (Below wr.heap.size wr W6) := Lib.hid (by rw [hW6]; exact (Below.refl _ _).alloc (Nat.le_refl _) _)
      have hk6 : Blk W6 wr.heap.size 65 #[.int .i64 (pP j), .int .i64 (pK j), .int .i64 (pF j), .int .i64 (pL j), .int .i64 (pN X j : Int), .func (.func (pC j)) #[] #[.pointer (some ⟨Bs, 0, none⟩)]] := by rw [hW6]; exact Blk.new _ _ _
      have b0 := hk6.cell 0
      have b1 := hk6.cell 1
      have b2 := hk6.cell 2
      have b3 := hk6.cell 3
      have b4 := hk6.cell 4
      have b5 := hk6.cell 5
      simp at b0 b1 b2 b3 b4 b5
      clear hk6 q0 q1 q2 q3 q4 q5
      go_wp2_with fail
      rw [← hW6]
      clear hW6
      try go_wp2_with fail
      have HBW : Hid (Below w.heap.size w W6) := Lib.hid (HB5.out.trans (HB6.out.mono HB5.out.size))
      have hcnt := parts_few HNN.out j hlt
      have hlen := parts_len HNA.out j hlt
      refine (ndecl_any W6 b mm u (pP j) (pK j) (pF j) (pL j) (pN X j) (pC j) #[.pointer (some ⟨Bs, 0, none⟩)] (pS d j) (HM.out.below HB6.out) HRI.out HKN.out hlen (by omega)
        (nmr_of (HX5.out.below HB6.out HX5.out.lt) (H.out.below HBW.out) (by have := HBB.out; omega) (by have h1 := HBS.out; have h2 := HS3.out; have h3 := HBB.out; omega) HBW.out.size j hlt) (parts_num j hlt).1 (parts_num j hlt).2.1 (parts_num j hlt).2.2 (parts_names HSH.out j hlt)).mono ?_
      rintro e W7 ⟨he, hz, hg7⟩
      obtain ⟨R1, hR1⟩ : ∃ R1, R1 = makeF gdN u (entF (pK j) (pP j) (pF j) (pL j - pF j) 0 (pS d j)) := ⟨_, rfl⟩
      have HRJ : Hid (R = if R1.2.1 = 0 then makeF gdN R1.1 (restE d (j + 1)) else R1) := Lib.hid (by rw [HR.out, rest_step d j hlt, makeF_app, ← hR1])
      have HR1 := Lib.hid hR1
      rw [← hR1] at he hz
      have HZ := Lib.hid hz
      have HLN := Lib.hid hlen
      have HCN := Lib.hid hcnt
      subst he
      clear hR1 hz hlen hcnt b0 b1 b2 b3 b4 b5
      have HG7 : Hid (W4.grownBy W7 (some b)) := Lib.hid ((HG.out.trans (gb_below HB6.out _)).trans hg7)
      have HF7 : Hid (Blk W7 (w.heap.size + 1) 30 #[.int .i64 0, .int .i64 0, .int .i64 0, .string ⟨#[]⟩]) := Lib.hid (HF4.out.grown HG7.out (some_ne (by have h3 := HBB.out; omega)))
      have HB7 : Hid (Below w.heap.size w W7) := Lib.hid (HB4.out.grown HG7.out HB4.out.size (fun k e => by cases e; have h3 := HBB.out; omega))
      have HS7 : Hid (w.heap.size + 5 ≤ W7.heap.size) := Lib.hid (by have h1 := HG7.out.size; have h2 := HS4.out; have h3 := HBS.out; have h4 := HS3.out; omega)
      clear hg7
      obtain ⟨F1, hF1⟩ : ∃ F1, F1 = R1.2 := ⟨_, rfl⟩
      rw [← hF1]
      have HF1 := Lib.hid hF1
      clear hF1
      obtain ⟨W8, hW8⟩ : ∃ W, W = W7.alloc (.cells #[.int .i64 F1.1, .int .i64 F1.2.1, .int .i64 F1.2.2.1, .string (bs F1.2.2.2)] 30) := ⟨_, rfl⟩
      have HB8 : Hid (Below W7.heap.size W7 W8) := Lib.hid (by rw [hW8]; exact (Below.refl _ _).alloc (Nat.le_refl _) _)
      have hk8 : Blk W8 W7.heap.size 30 #[.int .i64 F1.1, .int .i64 F1.2.1, .int .i64 F1.2.2.1, .string (bs F1.2.2.2)] := by rw [hW8]; exact Blk.new _ _ _
      have b0 := hk8.cell 0
      have b1 := hk8.cell 1
      have b2 := hk8.cell 2
      have b3 := hk8.cell 3
      simp at b0 b1 b2 b3
      have HF8 := Lib.hid (HF7.out.below HB8.out HF7.out.lt)
      have HB9 := Lib.hid (HB7.out.trans (HB8.out.mono HB7.out.size))
      have hq := fun v => run_neq_fau F1 (0, 0, 0, []) v
      have hgd := fun (o1 o2 : Operand) (v : World) => guard_fau .neq o1 o2 F1 (0, 0, 0, []) v
      by_cases h0 : R1.2.1 = 0
      · have hF0 : F1 = (0, 0, 0, []) := by rw [HF1.out, HR1.out]; exact makeF_zero (by rw [← HR1.out]; exact h0)
        have hd : (!decide (F1 = (0, 0, 0, []))) = false := by simp [hF0]
        simp only [hd] at hq
        change ∀ v, (binOp .neq 30 (.agg #[.int .i64 F1.1, .int .i64 F1.2.1, .int .i64 F1.2.2.1, .string (bs F1.2.2.2)]) (.agg #[.int .i64 0, .int .i64 0, .int .i64 0, .string ⟨#[]⟩])).run Tryd.prog v = .ok (.bool false) v at hq
        change ∀ (o1 o2 : Operand) (v : World), (eqGuard .neq 30 o1 o2 (.agg #[.int .i64 F1.1, .int .i64 F1.2.1, .int .i64 F1.2.2.1, .string (bs F1.2.2.2)]) (.agg #[.int .i64 0, .int .i64 0, .int .i64 0, .string ⟨#[]⟩])).run Tryd.prog v = .ok () v at hgd
        have HRN : Hid (R = makeF gdN R1.1 (restE d (j + 1))) := Lib.hid (by rw [HRJ.out, if_pos h0])
        obtain ⟨nn', hnn, hM7⟩ := HZ.out h0
        have HM8 := Lib.hid (hM7.below HB8.out)
        have hok := makeF_ok (gd := gdN) (l := entF (pK j) (pP j) (pF j) (pL j - pF j) 0 (pS d j)) HRI.out (by rw [← HR1.out]; exact h0)
        rw [← HR1.out] at hok
        have HRI8 := Lib.hid hok.1
        have HUL8 : Hid (0 < R1.1.length ∧ R1.1.length ≤ 4 + (j + 1) * 50000) := Lib.hid (by
          have h1 := hok.2.1
          rw [entF_len] at h1
          have h2 := HUL.out
          have h3 := HCN.out
          omega)
        have HKN8 : Hid (∀ y ∈ R1.1, y ≠ noNm) := Lib.hid (fun y hy => by
          rcases (hok.2.2.1 y).1 hy with hy | ⟨e, he, rfl⟩
          · exact HKN.out y hy
          · intro e2
            exact (parts_num j hlt).1 ((entF_mem he).1.symm.trans (congrArg Nm.kind e2)))
        have HG8 : Hid (W4.grownBy W8 (some b)) := Lib.hid (HG7.out.trans (gb_below HB8.out _))
        have hmm8 : nn' ≤ 4 + (j + 1) * 50000 := by have h1 := HCN.out; have h2 := HLN.out; omega
        clear hM7 hok h0 hF0 hd
        unfold fauV
        go_wp2_with fail
        rw [← hW8]
        clear hW8
        go_roundw
        case rel => exact ⟨j + 1, nn', R1.1, by omega, by go_num, hmm8, HM8, HRI8, HKN8, HUL8, HRN, HG8⟩
        case measure => simp [intOf]; omega
      · have hF0 : F1 ≠ (0, 0, 0, []) := fun e => h0 (by rw [← HF1.out, e])
        have hd : (!decide (F1 = (0, 0, 0, []))) = true := by simp [hF0]
        simp only [hd] at hq
        change ∀ v, (binOp .neq 30 (.agg #[.int .i64 F1.1, .int .i64 F1.2.1, .int .i64 F1.2.2.1, .string (bs F1.2.2.2)]) (.agg #[.int .i64 0, .int .i64 0, .int .i64 0, .string ⟨#[]⟩])).run Tryd.prog v = .ok (.bool true) v at hq
        change ∀ (o1 o2 : Operand) (v : World), (eqGuard .neq 30 o1 o2 (.agg #[.int .i64 F1.1, .int .i64 F1.2.1, .int .i64 F1.2.2.1, .string (bs F1.2.2.2)]) (.agg #[.int .i64 0, .int .i64 0, .int .i64 0, .string ⟨#[]⟩])).run Tryd.prog v = .ok () v at hgd
        have HRN : Hid (R = ([], F1)) := Lib.hid (by
          rw [HRJ.out, if_neg h0, HF1.out]
          have := (makeF_bad (gd := gdN) (t := u) (l := entF (pK j) (pP j) (pF j) (pL j - pF j) 0 (pS d j)) (by rw [← HR1.out]; exact h0)).1
          rw [← HR1.out] at this
          rw [← this])
        clear h0 hF0 hd
        unfold fauV
        go_wp2_with fail
        rw [← hW8]
        clear hW8
        have r0 := HF8.out.cell 0
        have r1 := HF8.out.cell 1
        have r2 := HF8.out.cell 2
        have r3 := HF8.out.cell 3
        simp at r0 r1 r2 r3
        have f0 := HF8.out.frozen 0
        have f1 := HF8.out.frozen 1
        have f2 := HF8.out.frozen 2
        have f3 := HF8.out.frozen 3
        go_region
        obtain ⟨W9, hW9⟩ : ∃ W, W = ((((W8.setCell ⟨w.heap.size + 1, 0, none⟩ (.int .i64 F1.1)).setCell ⟨w.heap.size + 1, 1, none⟩ (.int .i64 F1.2.1)).setCell ⟨w.heap.size + 1, 2, none⟩ (.int .i64 F1.2.2.1)).setCell ⟨w.heap.size + 1, 3, none⟩ (.string (bs F1.2.2.2))).drew := ⟨_, rfl⟩
        have hk9 : Blk W9 (w.heap.size + 1) 30 #[.int .i64 F1.1, .int .i64 F1.2.1, .int .i64 F1.2.2.1, .string (bs F1.2.2.2)] := by
          rw [hW9]
          exact (((Blk.set_ HF8.out 0 _).set_ 1 _).set_ 2 _).set_ 3 _
        have hb9 : Below w.heap.size w W9 := by
          rw [hW9]
          exact ((((HB9.out.setCell (p := ⟨w.heap.size + 1, 0, none⟩) (Nat.le_succ _) _).setCell (p := ⟨w.heap.size + 1, 1, none⟩) (Nat.le_succ _) _).setCell (p := ⟨w.heap.size + 1, 2, none⟩) (Nat.le_succ _) _).setCell (p := ⟨w.heap.size + 1, 3, none⟩) (Nat.le_succ _) _).drew
        have HK9 := Lib.hid hk9
        have HE9 := Lib.hid hb9
        rw [← hW9]
        clear hW9 hk9 hb9 r0 r1 r2 r3 f0 f1 f2 f3 b0 b1 b2 b3
        go_wp2_with fail
        (try simp only [Exit.inBlock, Exit.then]); refine bodyPost_ret (results_tc rfl _ _ _ _ _ _ _ rfl HK9.out Tryd.underlying30 rfl (by kernel_rfl)) rfl ?_
        rw [HRN.out]
        exact ⟨_, _, _, rfl, ownN_nil _ _ _, HE9.out⟩
    · obtain rfl : j = 7 := by omega
      have HRE : Hid (R = (u, (0, 0, 0, []))) := Lib.hid HR.out
      go_wp2_with fail
      refine (nvaluesC (some b) wr).mono ?_
      rintro e W9 ⟨rfl, hw9⟩
      have HB9 : Hid (Below wr.heap.size wr W9) := Lib.hid (by rw [hw9]; exact (Below.refl _ _).alloc (Nat.le_refl _) _)
      have hk9 : Blk W9 wr.heap.size 59 #[.map (some b)] := by rw [hw9]; exact Blk.new _ _ _
      have hc9 : W9.cell? ⟨wr.heap.size, 0, none⟩ = some (.map (some b)) := by rw [hk9.cell]; rfl
      have HC9 := Lib.hid hc9
      have HL9 := Lib.hid hk9.lt
      have HM9 := Lib.hid (HM.out.below HB9.out)
      clear hw9 hk9 hc9
      go_wp2_with fail
      refine (nsorted_any W9 wr.heap.size b mm (findI u) u HL9.out HC9.out HM9.out (by omega) HRI.out (fun s => rfl) HUL.out.1 (by have := HUL.out.2; omega)).mono ?_
      rintro e W10 ⟨A, n, c, rfl, ho, hb10⟩
      have HB10 : Hid (Below wr.heap.size wr W10) := Lib.hid (HB9.out.trans (hb10.mono HB9.out.size))
      have HF10 := Lib.hid (HF5.out.below HB10.out HF5.out.lt)
      have HB11 := Lib.hid (HB5.out.trans (HB10.out.mono HB5.out.size))
      have HO := Lib.hid ho
      have HS9 : Hid (w.heap.size + 5 ≤ W9.heap.size) := Lib.hid (Nat.le_trans HS5.out HB9.out.size)
      clear ho hb10
      go_wp2_with (refine wpList_store_row rfl 30 _ _ rfl (w.heap.size + 1) #[.int .i64 0, .int .i64 0, .int .i64 0, .string ⟨#[]⟩] rfl rfl _ _ HF10.out fau_size rfl (fau_one _ _ _ _) ?_)
      (try simp only [Exit.inBlock, Exit.then]); refine bodyPost_ret (results_tc rfl _ _ _ _ _ _ _ rfl (setRow_heap _ _ _ _ _ _ HF10.out) Tryd.underlying30 rfl (by kernel_rfl)) rfl ?_
      rw [HRE.out]
      exact ⟨_, _, _, rfl, own_from' (own_setRow9 HO.out (by have := HS9.out; omega) _) (by have := HS9.out; omega), below_setRow HB11.out (Nat.le_succ _) _⟩

theorem Fl.go {w w' : World} (h : Hid (Fl w)) (hb : Hid (Below w.heap.size w w')) : Fl w' := h.out.below hb.out (Nat.le_refl _)

end Go.Proofs.YtgeglhgkibcpfaaDoor
