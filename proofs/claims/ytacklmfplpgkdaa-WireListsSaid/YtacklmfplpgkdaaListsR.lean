/- Contracts of the reference's TakeText and TakeInts, and of its comparison of two lists. -/
import Derived.Test.YtacklmfplpgkdaaInts
namespace Go.Proofs.Ytacklmfplpgkdaa
open Go.RowKit

theorem nx_shape (l : List UInt8) (x y : Int) : (nx l x y 0 = ([], x, 2) ∧ (x < 0 ∨ (l.length : Int) - x < y)) ∨ (nx l x y 0 = ((l.drop x.toNat).take y.toNat, x + y, 0) ∧ ¬ (x < 0 ∨ (l.length : Int) - x < y)) := by
  by_cases h : x < 0 ∨ (l.length : Int) - x < y
  · exact .inl ⟨nx_short h, h⟩
  · exact .inr ⟨by unfold nx; rw [if_neg (by simp), if_neg h], h⟩

set_option maxRecDepth 100000 in
set_option maxHeartbeats 3200000 in
theorem rtText_any (w : World) (B : Nat) (A : Option Addr) (n c : Nat) (l : List UInt8) (x err most : Int) (h : Rd w B A n l) (hB : B ≤ w.heap.size) (hx : x ≤ 9223372036854775807) (hc : n ≤ c) (hnm : (n : Int) ≤ 1000000) (_hcm : (c : Int) ≤ 9223372036854775807) :
    Calls Try.prog 38 #[rv A n c x err, .int .i64 most] w fun e w' => e = .returned (.tuple #[.string ⟨(txS l most x err).1.toArray⟩, rv A n c (txS l most x err).2.1 (txS l most x err).2.2]) ∧ Below w.heap.size w w' := by
  have hlen := h.1
  have HS := Lib.hid (fun (W : World) (hR : Rd W B A n l) (hBW : B ≤ W.heap.size) => rtSize_any W B A n c l x err most hR hBW hx hnm)
  have hsb := sz_bounds l most x err
  unfold txS
  obtain ⟨r, hr⟩ : ∃ r, r = sz l most x err := ⟨_, rfl⟩
  rw [← hr] at HS hsb ⊢
  clear hr
  obtain ⟨m, x1, e1⟩ := r
  simp only at HS hsb ⊢
  have H := Lib.hid h
  clear h
  by_cases he1 : e1 = 0
  · subst he1
    obtain ⟨hm0, hm1, _, hx0, hx1⟩ := hsb rfl
    rw [if_neg (by simp)]
    rcases nx_shape l x1 m with ⟨hq, hsh⟩ | ⟨hq, hsh⟩
    · rw [hq, if_pos (by simp)]
      have HSH := Lib.hid (show x1 < 0 ∨ (n : Int) < x1 ∨ (n : Int) - x1 < m by omega)
      clear hq hsh
      go_enter Try.func38, Try.ntmps38
      go_wp2_with fail
      refine (HS.out _ (H.out.below ((((Below.refl _ _).alloc (Nat.le_refl _) _).alloc (by simp) _).mono hB)) (by simp; omega)).mono ?_
      rintro e w1 ⟨rfl, hb1⟩
      have hbel1 : Below w.heap.size w w1 := (((Below.refl _ _).alloc (Nat.le_refl _) _).alloc (by simp) _).trans (hb1.mono (by simp; omega))
      have B5 := Lib.hid (((Blk.new_at (w.alloc (.cells #[.slice A n c, .int .i64 x, .int .i64 err] 37)) 37 #[.slice none 0 0, .int .i64 0, .int .i64 0] (w.heap.size + 1) (by simp)).below hb1 (by simp)).alloc (.cells #[.slice A n c, .int .i64 x1, .int .i64 0] 37))
      have B2 := Lib.hid ((((Blk.new w 37 #[.slice A n c, .int .i64 x, .int .i64 err]).alloc (.cells #[.slice none 0 0, .int .i64 0, .int .i64 0] 37)).below hb1 (by simp; omega)).alloc (.cells #[.slice A n c, .int .i64 x1, .int .i64 0] 37))
      have B7 := Lib.hid (Blk.new w1 37 #[.slice A n c, .int .i64 x1, .int .i64 0])
      have hlt5 : w.heap.size + 1 < w1.heap.size := by have := hb1.size; simp at this; omega
      have hs1 := hbel1.size
      have hbel1a : Below w.heap.size w (w1.alloc (.cells #[.slice A n c, .int .i64 x1, .int .i64 0] 37)) := hbel1.alloc hs1 _
      have c20 := B2.out.cell 0
      have c21 := B2.out.cell 1
      have c22 := B2.out.cell 2
      simp only [List.getElem?_toArray, List.getElem?_cons_zero, List.getElem?_cons_succ] at c20 c21 c22
      clear hb1
      go_wp2_with fail
      refine (lacks_yes _ A n c x1 m 0 HSH.out hnm (by omega)).mono ?_
      rintro e w2 ⟨rfl, hb2⟩
      have hbel2 : Below w.heap.size w w2 := hbel1a.trans (hb2.mono (by simp; omega))
      have B52 := Lib.hid (B5.out.below hb2 B5.out.lt)
      have B22 := Lib.hid (B2.out.below hb2 B2.out.lt)
      have B72 := Lib.hid (B7.out.below hb2 B7.out.lt)
      have hlt7 := B72.out.lt
      have hs2 := hbel2.size
      have d20 := B22.out.cell 0
      have d21 := B22.out.cell 1
      have d22 := B22.out.cell 2
      have d50 := B52.out.cell 0
      have d51 := B52.out.cell 1
      have d52 := B52.out.cell 2
      have d70 := B72.out.cell 0
      have d71 := B72.out.cell 1
      have d72 := B72.out.cell 2
      have f50 := B52.out.frozen 0
      have f51 := B52.out.frozen 1
      have f52 := B52.out.frozen 2
      have f70 := B72.out.frozen 0
      have f71 := B72.out.frozen 1
      have f72 := B72.out.frozen 2
      simp only [List.getElem?_toArray, List.getElem?_cons_zero, List.getElem?_cons_succ] at d20 d21 d22 d50 d51 d52 d70 d71 d72
      clear hb2 B5 B2 B7 c20 c21 c22
      go_wp2_with fail
      refine (fail_any _ _ _ _ _ _ _).mono ?_
      rintro e w3 ⟨rfl, hb3⟩
      have hbel3 : Below w.heap.size w w3 := hbel2.trans (hb3.mono (by have := hbel2.size; simp at this ⊢; omega))
      have b53 := B52.out.below hb3 B52.out.lt
      have k0 := b53.cell 0
      have k1 := b53.cell 1
      have k2 := b53.cell 2
      have g0 := b53.frozen 0
      have g1 := b53.frozen 1
      have g2 := b53.frozen 2
      simp only [List.getElem?_toArray, List.getElem?_cons_zero, List.getElem?_cons_succ] at k0 k1 k2
      clear b53 hb3
      go_wp2_with fail
      refine bodyPost_ret (v := .tuple #[.string ⟨([] : List UInt8).toArray⟩, rv A n c x 2]) (by simp [results, Try.results38, go_sem, k0, k1, k2]) rfl ⟨rfl, ?_⟩
      exact ((hbel3.setCell (by simp) _).setCell (by simp) _).setCell (by simp) _
    · rw [hq, if_neg (by simp)]
      obtain ⟨a, rfl⟩ : ∃ a : Nat, x1 = (a : Int) := ⟨x1.toNat, by omega⟩
      obtain ⟨M, rfl⟩ : ∃ M : Nat, m = (M : Int) := ⟨m.toNat, by omega⟩
      have haM : a + M ≤ n := by omega
      have HRC := Lib.hid (fun (W : World) (hR : Rd W B A n l) => hR.cut a M haM)
      rw [Int.toNat_natCast, Int.toNat_natCast]
      obtain ⟨bs, hbs⟩ : ∃ bs, bs = (l.drop a).take M := ⟨_, rfl⟩
      rw [← hbs] at HRC ⊢
      have ha1 : (a : Int) ≤ n := by omega
      have ha2 : (M : Int) ≤ (n : Int) - a := by omega
      clear hq hsh hbs hsb
      go_enter Try.func38, Try.ntmps38
      go_wp2_with fail
      refine (HS.out _ (H.out.below ((((Below.refl _ _).alloc (Nat.le_refl _) _).alloc (by simp) _).mono hB)) (by simp; omega)).mono ?_
      rintro e w1 ⟨rfl, hb1⟩
      have hbel1 : Below w.heap.size w w1 := (((Below.refl _ _).alloc (Nat.le_refl _) _).alloc (by simp) _).trans (hb1.mono (by simp; omega))
      have B5 := Lib.hid (((Blk.new_at (w.alloc (.cells #[.slice A n c, .int .i64 x, .int .i64 err] 37)) 37 #[.slice none 0 0, .int .i64 0, .int .i64 0] (w.heap.size + 1) (by simp)).below hb1 (by simp)).alloc (.cells #[.slice A n c, .int .i64 (a : Int), .int .i64 0] 37))
      have B2 := Lib.hid ((((Blk.new w 37 #[.slice A n c, .int .i64 x, .int .i64 err]).alloc (.cells #[.slice none 0 0, .int .i64 0, .int .i64 0] 37)).below hb1 (by simp; omega)).alloc (.cells #[.slice A n c, .int .i64 (a : Int), .int .i64 0] 37))
      have B7 := Lib.hid (Blk.new w1 37 #[.slice A n c, .int .i64 (a : Int), .int .i64 0])
      have hlt5 : w.heap.size + 1 < w1.heap.size := by have := hb1.size; simp at this; omega
      have hs1 := hbel1.size
      have hbel1a : Below w.heap.size w (w1.alloc (.cells #[.slice A n c, .int .i64 (a : Int), .int .i64 0] 37)) := hbel1.alloc hs1 _
      have c20 := B2.out.cell 0
      have c21 := B2.out.cell 1
      have c22 := B2.out.cell 2
      simp only [List.getElem?_toArray, List.getElem?_cons_zero, List.getElem?_cons_succ] at c20 c21 c22
      clear hb1
      go_wp2_with fail
      refine (lacks_no _ A n c a M 0 (by omega) ha1 ha2 hnm).mono ?_
      rintro e w2 ⟨rfl, hb2⟩
      have hbel2 : Below w.heap.size w w2 := hbel1a.trans (hb2.mono (by simp; omega))
      have B52 := Lib.hid (B5.out.below hb2 B5.out.lt)
      have B22 := Lib.hid (B2.out.below hb2 B2.out.lt)
      have B72 := Lib.hid (B7.out.below hb2 B7.out.lt)
      have hlt7 := B72.out.lt
      have hs2 := hbel2.size
      have d20 := B22.out.cell 0
      have d21 := B22.out.cell 1
      have d22 := B22.out.cell 2
      have d50 := B52.out.cell 0
      have d51 := B52.out.cell 1
      have d52 := B52.out.cell 2
      have d70 := B72.out.cell 0
      have d71 := B72.out.cell 1
      have d72 := B72.out.cell 2
      have f50 := B52.out.frozen 0
      have f51 := B52.out.frozen 1
      have f52 := B52.out.frozen 2
      have f70 := B72.out.frozen 0
      have f71 := B72.out.frozen 1
      have f72 := B72.out.frozen 2
      simp only [List.getElem?_toArray, List.getElem?_cons_zero, List.getElem?_cons_succ] at d20 d21 d22 d50 d51 d52 d70 d71 d72
      clear hb2 B5 B2 B7 c20 c21 c22
      have HRC2 := Lib.hid (HRC.out w2 (H.out.below (hbel2.mono hB)))
      by_cases hM : M = 0
      · subst hM
        have hb0 : bs = [] := List.eq_nil_of_length_eq_zero HRC2.out.1
        have hconv := fun (A' : Option Addr) (c' : Nat) => (show Rd w2 0 A' 0 [] from ⟨rfl, fun h => absurd h (by omega)⟩).toStr (P := Try.prog) 22 9 5 c' Try.underlying22 Try.underlying5 Try.underlying9
        subst hb0
        by_cases hca : c = a
        · subst hca
          go_wp2_with fail
          go_region
          all_goals
            go_wp2
            refine bodyPost_ret (v := .tuple #[.string ⟨([] : List UInt8).toArray⟩, rv A n c ((c : Int) + (0 : Nat)) 0]) (by simp [results, Try.results38, go_sem, d50, d51, d52]) rfl ⟨rfl, ?_⟩
            exact ((((hbel2.setCell (by simp; omega) _).setCell (by simp) _).setCell (by simp) _).setCell (by simp) _).drew
        · go_wp2_with fail
          go_region
          all_goals
            go_wp2
            refine bodyPost_ret (v := .tuple #[.string ⟨([] : List UInt8).toArray⟩, rv A n c ((a : Int) + (0 : Nat)) 0]) (by simp [results, Try.results38, go_sem, d50, d51, d52]) rfl ⟨rfl, ?_⟩
            exact ((((hbel2.setCell (by simp; omega) _).setCell (by simp) _).setCell (by simp) _).setCell (by simp) _).drew
      · have hca : ¬ c = a := by omega
        have hconv := HRC2.out.toStr (P := Try.prog) 22 9 5 (c - a) Try.underlying22 Try.underlying5 Try.underlying9
        go_wp2_with fail
        go_region
        all_goals
          go_wp2
          refine bodyPost_ret (v := .tuple #[.string ⟨bs.toArray⟩, rv A n c ((a : Int) + M) 0]) (by simp [results, Try.results38, go_sem, d50, d51, d52]) rfl ⟨rfl, ?_⟩
          exact ((((hbel2.setCell (by simp; omega) _).setCell (by simp) _).setCell (by simp) _).setCell (by simp) _).drew
  · rw [if_pos he1]
    have hbe : (e1 == 0) = false := beq_eq_false_iff_ne.2 he1
    have hbe2 : (e1 != 0) = true := by rw [bne_iff_ne]; exact he1
    clear hsb
    go_enter Try.func38, Try.ntmps38
    go_wp2_with fail
    refine (HS.out _ (H.out.below ((((Below.refl _ _).alloc (Nat.le_refl _) _).alloc (by simp) _).mono hB)) (by simp; omega)).mono ?_
    rintro e w1 ⟨rfl, hb1⟩
    have hbel1 : Below w.heap.size w w1 := (((Below.refl _ _).alloc (Nat.le_refl _) _).alloc (by simp) _).trans (hb1.mono (by simp; omega))
    have B5 := Lib.hid (((Blk.new_at (w.alloc (.cells #[.slice A n c, .int .i64 x, .int .i64 err] 37)) 37 #[.slice none 0 0, .int .i64 0, .int .i64 0] (w.heap.size + 1) (by simp)).below hb1 (by simp)).alloc (.cells #[.slice A n c, .int .i64 x1, .int .i64 e1] 37))
    have B2 := Lib.hid ((((Blk.new w 37 #[.slice A n c, .int .i64 x, .int .i64 err]).alloc (.cells #[.slice none 0 0, .int .i64 0, .int .i64 0] 37)).below hb1 (by simp; omega)).alloc (.cells #[.slice A n c, .int .i64 x1, .int .i64 e1] 37))
    have B7 := Lib.hid (Blk.new w1 37 #[.slice A n c, .int .i64 x1, .int .i64 e1])
    have hlt5 : w.heap.size + 1 < w1.heap.size := by have := hb1.size; simp at this; omega
    have hs1 := hbel1.size
    have hbel1a : Below w.heap.size w (w1.alloc (.cells #[.slice A n c, .int .i64 x1, .int .i64 e1] 37)) := hbel1.alloc hs1 _
    have c20 := B2.out.cell 0
    have c21 := B2.out.cell 1
    have c22 := B2.out.cell 2
    simp only [List.getElem?_toArray, List.getElem?_cons_zero, List.getElem?_cons_succ] at c20 c21 c22
    clear hb1
    go_wp2_with fail
    refine (fail_any _ _ _ _ _ _ _).mono ?_
    rintro e w3 ⟨rfl, hb3⟩
    have hbel3 : Below w.heap.size w w3 := hbel1a.trans (hb3.mono (by have := hbel1a.size; simp at this ⊢; omega))
    have b53 := B5.out.below hb3 B5.out.lt
    have k0 := b53.cell 0
    have k1 := b53.cell 1
    have k2 := b53.cell 2
    have g0 := b53.frozen 0
    have g1 := b53.frozen 1
    have g2 := b53.frozen 2
    simp only [List.getElem?_toArray, List.getElem?_cons_zero, List.getElem?_cons_succ] at k0 k1 k2
    clear b53 hb3
    go_wp2_with fail
    refine bodyPost_ret (v := .tuple #[.string ⟨([] : List UInt8).toArray⟩, rv A n c x e1]) (by simp [results, Try.results38, go_sem, k0, k1, k2]) rfl ⟨rfl, ?_⟩
    exact ((hbel3.setCell (by simp) _).setCell (by simp) _).setCell (by simp) _

theorem own_ne {w : World} {base : Nat} {e : TypeId} {size n : Nat} {v : Value} {xs : List Value} {g : Nat} (h : w.ownsRow base e size v n xs) (hg : g < base) : v.ownBlock = none ∨ v.ownBlock ≠ some g := by
  refine .inr (fun he => ?_)
  have := (h.lt g he).1
  omega

theorem own_below {w w' : World} {base : Nat} {e : TypeId} {size n : Nat} {v : Value} {xs : List Value} (h : w.ownsRow base e size v n xs) (hb : Below w.heap.size w w') : w'.ownsRow base e size v n xs := h.kept (row := none) ⟨hb.os, hb.tape, hb.output, hb.size, fun k hk _ => hb.block k hk⟩ (by
  rcases h.2 with ⟨rfl, _⟩ | ⟨g, cap, cur, rfl, _⟩
  · exact .inl rfl
  · exact .inr (fun e => by cases e))

set_option maxRecDepth 100000 in
set_option maxHeartbeats 3200000 in
theorem same_same (w : World) (B B' : Nat) (A A' : Option Addr) (n n' c c' : Nat) (zs : List Int) (h : RdI w B A n zs) (h' : RdI w B' A' n' zs) (_hn : (n : Int) ≤ 1000000) :
    Calls Try.prog 41 #[.slice A n c, .slice A' n' c'] w fun e w' => e = .returned (.bool true) ∧ Below w.heap.size w w' := by
  obtain rfl : n' = n := by rw [← h.1, ← h'.1]
  have H := Lib.hid h
  have H' := Lib.hid h'
  clear h h'
  go_enter Try.func41, Try.ntmps41
  go_wp2_with fail
  go_loopw [5] (fun i wr => ∃ (j : Nat), j ≤ n' ∧ i = .int .i64 j ∧ Below w.heap.size w wr ∧ ∀ p, wr.cell? p = w.cell? p) (fun i _ => n' - (intOf i).toNat)
  case atStart => exact ⟨0, Nat.zero_le _, rfl, Below.refl _ _, fun _ => rfl⟩
  case round =>
    obtain ⟨j, hj, rfl, hbel, hcells⟩ := hrel
    by_cases hlt : j < n'
    · obtain ⟨ad, rfl, _, hc⟩ := H.out.2.1 (by omega)
      obtain ⟨ad', rfl, _, hc'⟩ := H'.out.2.1 (by omega)
      have k1 := (hcells (ad.add j)).trans (hc j (by rw [H.out.1]; exact hlt))
      have k2 := (hcells (ad'.add j)).trans (hc' j (by rw [H.out.1]; exact hlt))
      obtain ⟨z, hz⟩ : ∃ z, z = zs.getD j 0 := ⟨_, rfl⟩
      rw [← hz] at k1 k2
      have HC := Lib.hid hcells
      clear hc hc' hz hcells
      go_wp2_with fail
      go_quiet (fail)
      go_wp2_with fail
      go_roundw
      case rel => exact ⟨j + 1, by omega, by go_num, ⟨hbel.os, hbel.tape, hbel.output, hbel.size, hbel.block⟩, HC.out⟩
      case measure => simp [intOf]; omega
    · have HC := Lib.hid hcells
      clear hcells
      go_wp2_with fail
      go_ret
      exact ⟨rfl, hbel⟩

theorem nx_word {l : List UInt8} {a M j : Nat} (h : a + 2 * M ≤ l.length) (hj : j < M) : nx l ((a : Int) + 2 * (j : Int)) 2 0 = ((((l.drop a).take (2 * M)).drop (2 * j)).take 2, ((a : Int) + 2 * ((j : Int) + 1)), 0) := by
  unfold nx
  rw [if_neg (by simp), if_neg (by omega)]
  rw [show ((a : Int) + 2 * (j : Int)).toNat = a + 2 * j from by omega]
  simp only [Prod.mk.injEq, and_true]
  refine ⟨?_, by omega⟩
  show (l.drop (a + 2 * j)).take 2 = _
  rw [List.drop_take, List.take_take, List.drop_drop, Nat.min_eq_left (by omega)]

set_option maxRecDepth 100000 in
set_option maxHeartbeats 3200000 in
theorem rtInts_any (w : World) (B : Nat) (A : Option Addr) (n c : Nat) (l : List UInt8) (x err most : Int) (h : Rd w B A n l) (hB : B ≤ w.heap.size) (hx : x ≤ 9223372036854775807) (hnm : (n : Int) ≤ 1000000) :
    Calls Try.prog 40 #[rv A n c x err, .int .i64 most] w (IntsP w A n c (inS l most x err)) := by
  obtain ⟨i0, hi, hz, hsz, hby⟩ := info_parts Try.infoI
  have hlen := h.1
  have HS := Lib.hid (fun (W : World) (hR : Rd W B A n l) (hBW : B ≤ W.heap.size) => rtSize_any W B A n c l x err most hR hBW hx hnm)
  have hsb := sz_bounds l most x err
  unfold inS
  obtain ⟨r, hr⟩ : ∃ r, r = sz l most x err := ⟨_, rfl⟩
  rw [← hr] at HS hsb ⊢
  clear hr
  obtain ⟨m, x1, e1⟩ := r
  simp only at HS hsb ⊢
  have H := Lib.hid h
  clear h
  by_cases he1 : e1 = 0
  · subst he1
    obtain ⟨hm0, hm1, _, hx0, hx1⟩ := hsb rfl
    rw [if_neg (by simp)]
    rcases nx_shape l x1 (2 * m) with ⟨hq, hsh⟩ | ⟨hq, hsh⟩
    · rw [hq, if_pos (by simp)]
      have HSH := Lib.hid (show x1 < 0 ∨ (n : Int) < x1 ∨ (n : Int) - x1 < 2 * m by omega)
      clear hq hsh
      go_enter Try.func40, Try.ntmps40
      go_wp2_with fail
      refine (HS.out _ (H.out.below ((((Below.refl _ _).alloc (Nat.le_refl _) _).alloc (by simp) _).mono hB)) (by simp; omega)).mono ?_
      rintro e w1 ⟨rfl, hb1⟩
      have hbel1 : Below w.heap.size w w1 := (((Below.refl _ _).alloc (Nat.le_refl _) _).alloc (by simp) _).trans (hb1.mono (by simp; omega))
      have B5 := Lib.hid (((Blk.new_at (w.alloc (.cells #[.slice A n c, .int .i64 x, .int .i64 err] 37)) 37 #[.slice none 0 0, .int .i64 0, .int .i64 0] (w.heap.size + 1) (by simp)).below hb1 (by simp)).alloc (.cells #[.slice A n c, .int .i64 x1, .int .i64 0] 37))
      have B2 := Lib.hid ((((Blk.new w 37 #[.slice A n c, .int .i64 x, .int .i64 err]).alloc (.cells #[.slice none 0 0, .int .i64 0, .int .i64 0] 37)).below hb1 (by simp; omega)).alloc (.cells #[.slice A n c, .int .i64 x1, .int .i64 0] 37))
      have B7 := Lib.hid (Blk.new w1 37 #[.slice A n c, .int .i64 x1, .int .i64 0])
      have hlt5 : w.heap.size + 1 < w1.heap.size := by have := hb1.size; simp at this; omega
      have hs1 := hbel1.size
      have hbel1a : Below w.heap.size w (w1.alloc (.cells #[.slice A n c, .int .i64 x1, .int .i64 0] 37)) := hbel1.alloc hs1 _
      have c20 := B2.out.cell 0
      have c21 := B2.out.cell 1
      have c22 := B2.out.cell 2
      simp only [List.getElem?_toArray, List.getElem?_cons_zero, List.getElem?_cons_succ] at c20 c21 c22
      clear hb1
      go_wp2_with fail
      refine (lacks_yes _ A n c x1 (2 * m) 0 HSH.out hnm (by omega)).mono ?_
      rintro e w2 ⟨rfl, hb2⟩
      have hbel2 : Below w.heap.size w w2 := hbel1a.trans (hb2.mono (by simp; omega))
      have B52 := Lib.hid (B5.out.below hb2 B5.out.lt)
      have B22 := Lib.hid (B2.out.below hb2 B2.out.lt)
      have B72 := Lib.hid (B7.out.below hb2 B7.out.lt)
      have hlt7 := B72.out.lt
      have hs2 := hbel2.size
      have d20 := B22.out.cell 0
      have d21 := B22.out.cell 1
      have d22 := B22.out.cell 2
      have d50 := B52.out.cell 0
      have d51 := B52.out.cell 1
      have d52 := B52.out.cell 2
      have d70 := B72.out.cell 0
      have d71 := B72.out.cell 1
      have d72 := B72.out.cell 2
      have f50 := B52.out.frozen 0
      have f51 := B52.out.frozen 1
      have f52 := B52.out.frozen 2
      have f70 := B72.out.frozen 0
      have f71 := B72.out.frozen 1
      have f72 := B72.out.frozen 2
      simp only [List.getElem?_toArray, List.getElem?_cons_zero, List.getElem?_cons_succ] at d20 d21 d22 d50 d51 d52 d70 d71 d72
      clear hb2 B5 B2 B7 c20 c21 c22
      go_wp2_with fail
      refine (fail_any _ _ _ _ _ _ _).mono ?_
      rintro e w3 ⟨rfl, hb3⟩
      have hbel3 : Below w.heap.size w w3 := hbel2.trans (hb3.mono (by have := hbel2.size; simp at this ⊢; omega))
      have b53 := B52.out.below hb3 B52.out.lt
      have k0 := b53.cell 0
      have k1 := b53.cell 1
      have k2 := b53.cell 2
      have g0 := b53.frozen 0
      have g1 := b53.frozen 1
      have g2 := b53.frozen 2
      simp only [List.getElem?_toArray, List.getElem?_cons_zero, List.getElem?_cons_succ] at k0 k1 k2
      clear b53 hb3
      go_wp2_with fail
      refine bodyPost_ret (v := .tuple #[.slice none 0 0, rv A n c x 2]) (by simp [results, Try.results40, go_sem, k0, k1, k2]) rfl ⟨none, 0, 0, rfl, RdI.nil_ _ _, ?_, fun ad had => by cases had⟩
      exact ((hbel3.setCell (by simp) _).setCell (by simp) _).setCell (by simp) _
    · rw [hq, if_neg (by simp)]
      obtain ⟨a, rfl⟩ : ∃ a : Nat, x1 = (a : Int) := ⟨x1.toNat, by omega⟩
      obtain ⟨M, rfl⟩ : ∃ M : Nat, m = (M : Int) := ⟨m.toNat, by omega⟩
      have haM : a + 2 * M ≤ n := by omega
      have haL : a + 2 * M ≤ l.length := by omega
      have e2M : (2 * (M : Int)).toNat = 2 * M := by omega
      rw [Int.toNat_natCast, Int.toNat_natCast, e2M]
      have ha1 : (a : Int) ≤ n := by omega
      have ha2 : 2 * (M : Int) ≤ (n : Int) - a := by omega
      obtain ⟨zs, hzs⟩ : ∃ zs, zs = wsOf ((l.drop a).take (2 * M)) M := ⟨_, rfl⟩
      rw [← hzs]
      have HZ := Lib.hid hzs
      have HZL : Hid (zs.length = M) := Lib.hid (by rw [hzs, wsOf_length])
      clear hq hsh hsb e2M hzs
      go_enter Try.func40, Try.ntmps40
      go_wp2_with fail
      refine (HS.out _ (H.out.below ((((Below.refl _ _).alloc (Nat.le_refl _) _).alloc (by simp) _).mono hB)) (by simp; omega)).mono ?_
      rintro e w1 ⟨rfl, hb1⟩
      have hbel1 : Below w.heap.size w w1 := (((Below.refl _ _).alloc (Nat.le_refl _) _).alloc (by simp) _).trans (hb1.mono (by simp; omega))
      have B5 := Lib.hid (((Blk.new_at (w.alloc (.cells #[.slice A n c, .int .i64 x, .int .i64 err] 37)) 37 #[.slice none 0 0, .int .i64 0, .int .i64 0] (w.heap.size + 1) (by simp)).below hb1 (by simp)).alloc (.cells #[.slice A n c, .int .i64 (a : Int), .int .i64 0] 37))
      have B2 := Lib.hid ((((Blk.new w 37 #[.slice A n c, .int .i64 x, .int .i64 err]).alloc (.cells #[.slice none 0 0, .int .i64 0, .int .i64 0] 37)).below hb1 (by simp; omega)).alloc (.cells #[.slice A n c, .int .i64 (a : Int), .int .i64 0] 37))
      have B7 := Lib.hid (Blk.new w1 37 #[.slice A n c, .int .i64 (a : Int), .int .i64 0])
      have hlt5 : w.heap.size + 1 < w1.heap.size := by have := hb1.size; simp at this; omega
      have hs1 := hbel1.size
      have hbel1a : Below w.heap.size w (w1.alloc (.cells #[.slice A n c, .int .i64 (a : Int), .int .i64 0] 37)) := hbel1.alloc hs1 _
      have c20 := B2.out.cell 0
      have c21 := B2.out.cell 1
      have c22 := B2.out.cell 2
      simp only [List.getElem?_toArray, List.getElem?_cons_zero, List.getElem?_cons_succ] at c20 c21 c22
      clear hb1
      go_wp2_with fail
      refine (lacks_no _ A n c a (2 * M) 0 (by omega) ha1 ha2 hnm).mono ?_
      rintro e w2 ⟨rfl, hb2⟩
      have hbel2 : Below w.heap.size w w2 := hbel1a.trans (hb2.mono (by simp; omega))
      have B52 := Lib.hid (B5.out.below hb2 B5.out.lt)
      have B22 := Lib.hid (B2.out.below hb2 B2.out.lt)
      have B72 := Lib.hid (B7.out.below hb2 B7.out.lt)
      have hlt7 := B72.out.lt
      have hs2 := hbel2.size
      have d20 := B22.out.cell 0
      have d21 := B22.out.cell 1
      have d22 := B22.out.cell 2
      have d50 := B52.out.cell 0
      have d51 := B52.out.cell 1
      have d52 := B52.out.cell 2
      have d70 := B72.out.cell 0
      have d71 := B72.out.cell 1
      have d72 := B72.out.cell 2
      have f50 := B52.out.frozen 0
      have f51 := B52.out.frozen 1
      have f52 := B52.out.frozen 2
      have f70 := B72.out.frozen 0
      have f71 := B72.out.frozen 1
      have f72 := B72.out.frozen 2
      simp only [List.getElem?_toArray, List.getElem?_cons_zero, List.getElem?_cons_succ] at d20 d21 d22 d50 d51 d52 d70 d71 d72
      clear hb2 B5 B2 B7 c20 c21 c22
      clear d20 d21 d22 d50 d51 d52 d70 d71 d72 f50 f51 f52 f70 f71 f72 B22
      go_wp2_with fail
      go_loopw [8, 9] (fun v i wr => ∃ (j : Nat) (A' : Option Addr) (c' : Nat), j ≤ M ∧ i = .int .i64 j ∧ v = .slice A' j c' ∧ wr.ownsRow (w1.heap.size + 1) 3 1 (.slice A' j c') j (ic (zs.take j)) ∧
          Blk wr w1.heap.size 37 #[.slice A n c, .int .i64 ((a : Int) + 2 * (j : Int)), .int .i64 0] ∧ Blk wr (w.heap.size + 1) 37 #[.slice none 0 0, .int .i64 0, .int .i64 0] ∧ Below w.heap.size w wr)
        (fun _ i _ => M - (intOf i).toNat)
      case atStart => exact ⟨0, none, 0, Nat.zero_le _, rfl, rfl, World.ownsRow_nil _ _ _ _, by simpa using B72.out, B52.out, hbel2⟩
      case round =>
        obtain ⟨j, A', c', hj, rfl, rfl, ho, b7, b5, hbel⟩ := hrel
        have HO := Lib.hid ho
        have C7 := Lib.hid b7
        have C5 := Lib.hid b5
        have hbs := hbel.size
        have hlt7r := b7.lt
        have q0 := b7.cell 0
        have q1 := b7.cell 1
        have q2 := b7.cell 2
        have p0 := b7.frozen 0
        have p1 := b7.frozen 1
        have p2 := b7.frozen 2
        simp only [List.getElem?_toArray, List.getElem?_cons_zero, List.getElem?_cons_succ] at q0 q1 q2
        clear ho b7 b5
        by_cases hlt : j < M
        · have HW := Lib.hid (rtWord_any wr B A n c l ((a : Int) + 2 * (j : Int)) 0 (H.out.below (hbel.mono hB)) (by omega) (by omega) hnm)
          rw [nx_word haL hlt] at HW
          have hv : w16 (beN ((((l.drop a).take (2 * M)).drop (2 * j)).take 2) : Nat) = zs.getD j 0 := by rw [HZ.out, wsOf_get _ M j hlt]
          simp only [hv] at HW
          obtain ⟨z, hzj⟩ : ∃ z, z = zs.getD j 0 := ⟨_, rfl⟩
          rw [← hzj] at HW
          have HZJ := Lib.hid hzj
          clear hv hzj
          go_wp2_with fail
          refine HW.out.mono ?_
          rintro e w4 ⟨rfl, hb4⟩
          have hbel4 : Below w.heap.size w w4 := hbel.trans (hb4.mono hbs)
          have HO4 := Lib.hid (own_below HO.out hb4)
          have C74 := Lib.hid ((C7.out.below hb4 C7.out.lt).alloc (.cells #[.slice A n c, .int .i64 ((a : Int) + 2 * ((j : Int) + 1)), .int .i64 0] 37))
          have C54 := Lib.hid ((C5.out.below hb4 C5.out.lt).alloc (.cells #[.slice A n c, .int .i64 ((a : Int) + 2 * ((j : Int) + 1)), .int .i64 0] 37))
          have CY4 := Lib.hid (Blk.new w4 37 #[.slice A n c, .int .i64 ((a : Int) + 2 * ((j : Int) + 1)), .int .i64 0])
          have hs4 := hb4.size
          have hs4b := hbel4.size
          clear hb4 q0 q1 q2 p0 p1 p2
          go_wp2_with (at_builtin; refine wpList_append_own _ rfl _ _ 32 rfl (w1.heap.size + 1) 3 i0 (.int .i64 0) 1 8 Try.underlying32 hi hz hsz hby rfl (by omega) _ _ _ rfl ((HO4.out.alloc _).alloc _) ⟨w4.heap.size + 1, 0, none⟩ 1 1 [.int .i64 z] rfl rfl ?_ ?_ ?_ ?_ ?_ ?_)
          · intro k u hu
            match k, hu with
            | 0, hu =>
              simp at hu
              subst hu
              exact (Blk.new_at (w4.alloc _) _ _ _ (by simp)).cell 0
          · intro u hu
            simp at hu
            subst hu
            rfl
          · unfold maxLen; omega
          · omega
          · simp; omega
          · intro v' w5 hown5 hg5 _
            obtain ⟨A5, c5, rfl⟩ := own_slice hown5
            have hg : World.grownBy _ w5 (Value.slice A' j c').ownBlock := hg5
            have hne : ∀ g, (g = w4.heap.size ∨ g = w1.heap.size ∨ g = w.heap.size + 1) → some g ≠ (Value.slice A' j c').ownBlock := by
              intro g hgg e
              have := HO4.out.lt g e.symm
              omega
            have C75 := Lib.hid ((C74.out.alloc _).grown hg (hne _ (.inr (.inl rfl))))
            have C55 := Lib.hid ((C54.out.alloc _).grown hg (hne _ (.inr (.inr rfl))))
            have CY5 := Lib.hid ((CY4.out.alloc _).grown hg (hne _ (.inl rfl)))
            have hbel5 : Below w.heap.size w w5 := ((hbel4.alloc (by omega) _).alloc (by simp; omega) _).grown hg (by simp; omega) (fun k hk => by have := HO4.out.lt k hk; omega)
            have HO5 := Lib.hid hown5
            have q0 := CY5.out.cell 0
            have q1 := CY5.out.cell 1
            have q2 := CY5.out.cell 2
            have r0 := C75.out.cell 0
            have r1 := C75.out.cell 1
            have r2 := C75.out.cell 2
            have p0 := C75.out.frozen 0
            have p1 := C75.out.frozen 1
            have p2 := C75.out.frozen 2
            simp only [List.getElem?_toArray, List.getElem?_cons_zero, List.getElem?_cons_succ] at q0 q1 q2 r0 r1 r2
            clear hown5 hg hg5 hne C74 C54 CY4
            go_wp2_with fail
            go_roundw
            case rel =>
              have hgs := gb_set (gb_set (gb_set (World.grownBy.refl w5 (some w1.heap.size)) 0 (.slice A n c)) 1 (.int .i64 ((a : Int) + 2 * ((j : Int) + 1)))) 2 (.int .i64 0)
              have ho5 := HO5.out.kept hgs (own_ne HO5.out (by omega))
              have hjz : j < zs.length := by rw [HZL.out]; exact hlt
              rw [show ic (zs.take j) ++ [Value.int .i64 z] = ic (zs.take (j + 1)) from by rw [HZJ.out, List.take_succ_eq_append_getElem hjz]; simp only [ic, List.map_append, List.map_cons, List.map_nil, List.getD, List.getElem?_eq_getElem hjz, Option.getD_some]] at ho5
              refine ⟨j + 1, A5, c5, by omega, by go_num, rfl, ho5, ?_, ((C55.out.far (by simp; omega) _).far (by simp; omega) _).far (by simp; omega) _, ((hbel5.setCell (by simp; omega) _).setCell (by simp; omega) _).setCell (by simp; omega) _⟩
              rw [show ((j + 1 : Nat) : Int) = (j : Int) + 1 from by omega]
              exact ((C75.out.set_ 0 _).set_ 1 _).set_ 2 _
            case measure => simp [intOf]; omega
        · have k0 := C5.out.cell 0
          have k1 := C5.out.cell 1
          have k2 := C5.out.cell 2
          have f0 := C5.out.frozen 0
          have f1 := C5.out.frozen 1
          have f2 := C5.out.frozen 2
          simp only [List.getElem?_toArray, List.getElem?_cons_zero, List.getElem?_cons_succ] at k0 k1 k2
          go_wp2_with fail
          go_region
          all_goals
            go_wp2
            refine bodyPost_ret (v := .tuple #[.slice A' j c', rv A n c ((a : Int) + 2 * (j : Int)) 0]) (by simp [results, Try.results40, go_sem, k0, k1, k2]) rfl ⟨A', j, c', ?_, ?_, (((hbel.setCell (by simp) _).setCell (by simp) _).setCell (by simp) _).drew, ?_⟩
            · rw [show j = M from by omega]
            · have e : j = M := by omega
              have ho := HO.out
              rw [List.take_of_length_le (by rw [HZL.out]; omega)] at ho
              have hf : ∀ j, -9223372036854775808 ≤ zs.getD j 0 ∧ zs.getD j 0 ≤ 9223372036854775807 := by rw [HZ.out]; exact wsOf_fits _ M
              have hg := gb_set (gb_set (gb_set (World.grownBy.refl wr (some (w.heap.size + 1))) 0 (.slice A n c)) 1 (.int .i64 ((a : Int) + 2 * (j : Int)))) 2 (.int .i64 0)
              exact RdI.of_own ((ho.kept hg (own_ne HO.out (by omega))).drew) hf
            · intro ad had
              subst had
              have := (HO.out.lt ad.block rfl).1
              omega
  · rw [if_pos he1]
    have hbe : (e1 == 0) = false := beq_eq_false_iff_ne.2 he1
    have hbe2 : (e1 != 0) = true := by rw [bne_iff_ne]; exact he1
    clear hsb
    go_enter Try.func40, Try.ntmps40
    go_wp2_with fail
    refine (HS.out _ (H.out.below ((((Below.refl _ _).alloc (Nat.le_refl _) _).alloc (by simp) _).mono hB)) (by simp; omega)).mono ?_
    rintro e w1 ⟨rfl, hb1⟩
    have hbel1 : Below w.heap.size w w1 := (((Below.refl _ _).alloc (Nat.le_refl _) _).alloc (by simp) _).trans (hb1.mono (by simp; omega))
    have B5 := Lib.hid (((Blk.new_at (w.alloc (.cells #[.slice A n c, .int .i64 x, .int .i64 err] 37)) 37 #[.slice none 0 0, .int .i64 0, .int .i64 0] (w.heap.size + 1) (by simp)).below hb1 (by simp)).alloc (.cells #[.slice A n c, .int .i64 x1, .int .i64 e1] 37))
    have B2 := Lib.hid ((((Blk.new w 37 #[.slice A n c, .int .i64 x, .int .i64 err]).alloc (.cells #[.slice none 0 0, .int .i64 0, .int .i64 0] 37)).below hb1 (by simp; omega)).alloc (.cells #[.slice A n c, .int .i64 x1, .int .i64 e1] 37))
    have B7 := Lib.hid (Blk.new w1 37 #[.slice A n c, .int .i64 x1, .int .i64 e1])
    have hlt5 : w.heap.size + 1 < w1.heap.size := by have := hb1.size; simp at this; omega
    have hs1 := hbel1.size
    have hbel1a : Below w.heap.size w (w1.alloc (.cells #[.slice A n c, .int .i64 x1, .int .i64 e1] 37)) := hbel1.alloc hs1 _
    have c20 := B2.out.cell 0
    have c21 := B2.out.cell 1
    have c22 := B2.out.cell 2
    simp only [List.getElem?_toArray, List.getElem?_cons_zero, List.getElem?_cons_succ] at c20 c21 c22
    clear hb1
    go_wp2_with fail
    refine (fail_any _ _ _ _ _ _ _).mono ?_
    rintro e w3 ⟨rfl, hb3⟩
    have hbel3 : Below w.heap.size w w3 := hbel1a.trans (hb3.mono (by have := hbel1a.size; simp at this ⊢; omega))
    have b53 := B5.out.below hb3 B5.out.lt
    have k0 := b53.cell 0
    have k1 := b53.cell 1
    have k2 := b53.cell 2
    have g0 := b53.frozen 0
    have g1 := b53.frozen 1
    have g2 := b53.frozen 2
    simp only [List.getElem?_toArray, List.getElem?_cons_zero, List.getElem?_cons_succ] at k0 k1 k2
    clear b53 hb3
    go_wp2_with fail
    refine bodyPost_ret (v := .tuple #[.slice none 0 0, rv A n c x e1]) (by simp [results, Try.results40, go_sem, k0, k1, k2]) rfl ⟨none, 0, 0, rfl, RdI.nil_ _ _, ?_, fun ad had => by cases had⟩
    exact ((hbel3.setCell (by simp) _).setCell (by simp) _).setCell (by simp) _

end Go.Proofs.Ytacklmfplpgkdaa
