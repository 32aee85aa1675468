/- The walk of the statement SumTurns. -/
import Derived.Test.YtpenilbnhhcmiaaAwake
import Derived.Test.YtpenilbnhhcmiaaOwn4
namespace Go.Proofs.Ytpenilbnhhcmiaa
open Go.RowKit

/-- a slice of arrays of three bytes reads as these -/
def Rd3 (w : World) (B : Nat) (A : Option Addr) (n : Nat) (ts : List (UInt8 × UInt8 × UInt8)) : Prop :=
  ts.length = n ∧ (0 < n → ∃ ad : Addr, A = some ad ∧ ad.block < B ∧ ∀ j (h : j < ts.length),
    w.cell? (ad.add (j * 3)) = some (.int .u8 (ts[j].1.toNat : Int)) ∧ w.cell? (ad.add (j * 3 + 1)) = some (.int .u8 (ts[j].2.1.toNat : Int)) ∧ w.cell? (ad.add (j * 3 + 2)) = some (.int .u8 (ts[j].2.2.toNat : Int)))

theorem xor_u8 (p q : UInt8) : bits .xor .u8 (p.toNat : Int) (q.toNat : Int) = ((p ^^^ q).toNat : Int) := by
  have hp := p.toNat_lt
  have hq := q.toNat_lt
  rw [UInt8.toNat_xor]
  exact u8_xor_nat p.toNat q.toNat (by omega) (by omega)

theorem add_pos (a : Addr) (k : Nat) (h : k ≠ 0) : a.add k = ⟨a.block, a.off + k, none⟩ := by unfold Addr.add; rw [if_neg h]

theorem Rd.one_at (w : World) (b : UInt8) (t : TypeId) (k : Nat) (hk : k = w.heap.size) : Rd (w.alloc (.cells #[.int .u8 (b.toNat : Int)] t)) (k + 1) (some ⟨k, 0, none⟩) 1 [b] := by
  subst hk
  exact Rd.one w b t

theorem own_ne_new {w : World} {base : Nat} {e : TypeId} {size n : Nat} {v : Value} {xs : List Value} (h : w.ownsRow base e size v n xs) {g : Nat} (hg : w.heap.size ≤ g) : some g ≠ v.ownBlock := fun e => by
  have := (h.lt _ e.symm).2
  omega

theorem take_map {α : Type} (ts : List α) (f : α → UInt8) (j : Nat) (h : j < ts.length) (t : α) (ht : t = ts[j]) : (ts.take (j + 1)).map f = (ts.take j).map f ++ [f t] := by
  rw [List.take_succ_eq_append_getElem h, List.map_append, ht]
  rfl

set_option maxRecDepth 100000 in
set_option maxHeartbeats 3200000 in
theorem turns_walk (A : Option Addr) (n c : Nat) (ts : List (UInt8 × UInt8 × UInt8)) (w : World) (h : Rd3 w w.heap.size A n ts) (hn : (n : Int) ≤ 700) :
    Calls Try.prog 8 #[.slice A n c] w fun e w' => e = .returned (.bool true) ∧ Below w.heap.size w w' := by
  obtain ⟨i0, hi, hz, hsz, hb⟩ := info_parts Try.infoB
  have H := Lib.hid h
  clear h
  go_enter Try.func8, Try.ntmps8
  go_wp2_with fail
  go_loopw [3, 4, 5, 6, 15] (fun va vb vc vd i wr => ∃ (j : Nat) (Aa Ab Ac Ad : Option Addr) (ca cb cc cd : Nat), j ≤ n ∧ i = .int .i64 j ∧ va = .slice Aa j ca ∧ vb = .slice Ab j cb ∧ vc = .slice Ac j cc ∧ vd = .slice Ad j cd ∧
      Hid (OwnL wr w.heap.size 5 [(.slice Aa j ca, j, (ts.take j).map fun x => x.1), (.slice Ab j cb, j, (ts.take j).map fun x => x.2.1), (.slice Ac j cc, j, (ts.take j).map fun x => x.2.2), (.slice Ad j cd, j, (ts.take j).map fun x => x.1 ^^^ x.2.1 ^^^ x.2.2)]) ∧ Below w.heap.size w wr) (fun _ _ _ _ i _ => n - (intOf i).toNat)
  case atStart => exact ⟨0, none, none, none, none, 0, 0, 0, 0, Nat.zero_le _, rfl, rfl, rfl, rfl, rfl, OwnL.nil4 _ _ _, Below.refl _ _⟩
  case round =>
    obtain ⟨j, Aa, Ab, Ac, Ad, ca, cb, cc, cd, hj, rfl, rfl, rfl, rfl, rfl, HO, hbel⟩ := hrel
    have hbs := hbel.size
    by_cases hlt : j < n
    · obtain ⟨ad, rfl, hab, hcell⟩ := H.out.2 (by omega)
      have hjl : j < ts.length := by rw [H.out.1]; exact hlt
      obtain ⟨k0, k1, k2⟩ := hcell j hjl
      have k0 := (hbel.cell (p := ad.add (j * 3)) (by rw [blk_add]; omega)).trans k0
      have k1 := (hbel.cell (p := ad.add (j * 3 + 1)) (by rw [blk_add]; omega)).trans k1
      have k2 := (hbel.cell (p := ad.add (j * 3 + 2)) (by rw [blk_add]; omega)).trans k2
      clear hcell
      obtain ⟨t, ht⟩ : ∃ t, t = ts[j] := ⟨_, rfl⟩
      rw [← ht] at k0 k1 k2
      have HT := Lib.hid ht
      clear ht
      obtain ⟨p, q, r⟩ := t
      simp only at k0 k1 k2
      rw [← add_add, add_pos _ 1 (by omega)] at k1
      rw [← add_add, add_pos _ 2 (by omega)] at k2
      have hx1 := xor_u8 p q
      have hx2 := xor_u8 (p ^^^ q) r
      obtain ⟨y, hy⟩ : ∃ y, y = p ^^^ q ^^^ r := ⟨_, rfl⟩
      rw [← hy] at hx2
      obtain ⟨x, hx⟩ : ∃ x, x = p ^^^ q := ⟨_, rfl⟩
      rw [← hx] at hx1 hx2
      have HY := Lib.hid hy
      clear hx hy
      go_wp2_with (first
        | (at_builtin; refine wpList_appL _ rfl (.tmp 19) (.tmp 22) 22 rfl w.heap.size 5 i0 Try.underlying22 hi hz hsz hb _ j ((ts.take j).map fun x => x.1) rfl (HO.out.alloc _ |>.alloc _).head ((wr.heap.size + 1) + 1) (some ⟨(wr.heap.size + 1), 0, none⟩) 1 1 [p] rfl (Rd.one_at (wr.alloc _) p 5 (wr.heap.size + 1) (by simp)) (by omega) (by simp; omega) ?_; intro A1 c1 w1 ho1 hg1 hl1; have B1 := Lib.hid (((Blk.new wr 37 #[.int .u8 (p.toNat : Int), .int .u8 (q.toNat : Int), .int .u8 (r.toNat : Int)]).alloc _).grown hg1 (own_ne_new HO.out.head (Nat.le_refl _))); have b1 := ((hbel.alloc hbs _).alloc (by simp; omega) _).grown hg1 (by simp; omega) (own_from HO.out.head); have H1 := Lib.hid ((HO.out.alloc _ |>.alloc _).push hg1 ho1 hl1); have s1 := b1.size; have m10 := B1.out.cell 0; have m11 := B1.out.cell 1; have m12 := B1.out.cell 2; simp only [List.getElem?_toArray, List.getElem?_cons_zero, List.getElem?_cons_succ] at m10 m11 m12; clear ho1 hg1 hl1)
        | (at_builtin; refine wpList_appL _ rfl (.tmp 24) (.tmp 27) 22 rfl w.heap.size 5 i0 Try.underlying22 hi hz hsz hb _ j ((ts.take j).map fun x => x.2.1) rfl (H1.out.alloc _).head (w1.heap.size + 1) (some ⟨w1.heap.size, 0, none⟩) 1 1 [q] rfl (Rd.one_at w1 q 5 w1.heap.size rfl) (by omega) (by simp; omega) ?_; intro A2 c2 w2 ho2 hg2 hl2; have B2 := Lib.hid ((B1.out.alloc _).grown hg2 (own_blk_ne H1.out.head B1.out (by decide))); have b2 := (b1.alloc s1 _).grown hg2 (by simp; omega) (own_from H1.out.head); have H2 := Lib.hid ((H1.out.alloc _).push hg2 ho2 hl2); clear B1 H1 b1 m10 m11 m12; have s2 := b2.size; have m20 := B2.out.cell 0; have m21 := B2.out.cell 1; have m22 := B2.out.cell 2; simp only [List.getElem?_toArray, List.getElem?_cons_zero, List.getElem?_cons_succ] at m20 m21 m22; clear ho2 hg2 hl2)
        | (at_builtin; refine wpList_appL _ rfl (.tmp 29) (.tmp 32) 22 rfl w.heap.size 5 i0 Try.underlying22 hi hz hsz hb _ j ((ts.take j).map fun x => x.2.2) rfl (H2.out.alloc _).head (w2.heap.size + 1) (some ⟨w2.heap.size, 0, none⟩) 1 1 [r] rfl (Rd.one_at w2 r 5 w2.heap.size rfl) (by omega) (by simp; omega) ?_; intro A3 c3 w3 ho3 hg3 hl3; have B3 := Lib.hid ((B2.out.alloc _).grown hg3 (own_blk_ne H2.out.head B2.out (by decide))); have b3 := (b2.alloc s2 _).grown hg3 (by simp; omega) (own_from H2.out.head); have H3 := Lib.hid ((H2.out.alloc _).push hg3 ho3 hl3); clear B2 H2 b2 m20 m21 m22; have s3 := b3.size; have m30 := B3.out.cell 0; have m31 := B3.out.cell 1; have m32 := B3.out.cell 2; simp only [List.getElem?_toArray, List.getElem?_cons_zero, List.getElem?_cons_succ] at m30 m31 m32; clear ho3 hg3 hl3)
        | (at_builtin; refine wpList_appL _ rfl (.tmp 34) (.tmp 43) 22 rfl w.heap.size 5 i0 Try.underlying22 hi hz hsz hb _ j ((ts.take j).map fun x => x.1 ^^^ x.2.1 ^^^ x.2.2) rfl (H3.out.alloc _).head (w3.heap.size + 1) (some ⟨w3.heap.size, 0, none⟩) 1 1 [y] rfl (Rd.one_at w3 y 5 w3.heap.size rfl) (by omega) (by simp; omega) ?_; intro A4 c4 w4 ho4 hg4 hl4; have B4 := Lib.hid ((B3.out.alloc _).grown hg4 (own_blk_ne H3.out.head B3.out (by decide))); have b4 := (b3.alloc s3 _).grown hg4 (by simp; omega) (own_from H3.out.head); have H4 := Lib.hid ((H3.out.alloc _).push hg4 ho4 hl4); clear B3 H3 b3 m30 m31 m32; have s4 := b4.size; have m40 := B4.out.cell 0; have m41 := B4.out.cell 1; have m42 := B4.out.cell 2; simp only [List.getElem?_toArray, List.getElem?_cons_zero, List.getElem?_cons_succ] at m40 m41 m42; clear ho4 hg4 hl4))
      clear m40 m41 m42
      go_wp2_with fail
      go_roundw
      case rel =>
        refine ⟨j + 1, A1, A2, A3, A4, c1, c2, c3, c4, by omega, by go_num, rfl, rfl, rfl, rfl, ?_, b4⟩
        show OwnL _ _ _ _
        rw [take_map ts _ j hjl _ HT.out, take_map ts _ j hjl _ HT.out, take_map ts _ j hjl _ HT.out, take_map ts _ j hjl _ HT.out]
        have h4 := H4.out
        rw [HY.out] at h4
        exact h4
      case measure => simp [intOf]; omega
    · obtain rfl : j = n := by omega
      have hm := HO.out.1
      have htk : ts.take j = ts := List.take_of_length_le (by rw [H.out.1]; exact Nat.le_refl _)
      rw [htk] at hm
      have Ra := Lib.hid (Rd.of_own (hm (.slice Aa j ca, j, ts.map fun x => x.1) (by simp)))
      have Rb := Lib.hid (Rd.of_own (hm (.slice Ab j cb, j, ts.map fun x => x.2.1) (by simp)))
      have Rc := Lib.hid (Rd.of_own (hm (.slice Ac j cc, j, ts.map fun x => x.2.2) (by simp)))
      have Rx := Lib.hid (Rd.of_own (hm (.slice Ad j cd, j, ts.map fun x => x.1 ^^^ x.2.1 ^^^ x.2.2) (by simp)))
      clear hm htk HO
      have E := Crc.on_xor3 ts
      obtain ⟨oa, ha⟩ : ∃ o, o = Crc.on 0 (ts.map fun x => x.1) := ⟨_, rfl⟩
      obtain ⟨ob, hob⟩ : ∃ o, o = Crc.on 0 (ts.map fun x => x.2.1) := ⟨_, rfl⟩
      obtain ⟨oc, hoc⟩ : ∃ o, o = Crc.on 0 (ts.map fun x => x.2.2) := ⟨_, rfl⟩
      obtain ⟨od, hod⟩ : ∃ o, o = Crc.on 0 (ts.map fun x => x.1 ^^^ x.2.1 ^^^ x.2.2) := ⟨_, rfl⟩
      have la : oa < 4294967296 := by rw [ha]; exact Crc.on_lt (by omega) _
      have lb : ob < 4294967296 := by rw [hob]; exact Crc.on_lt (by omega) _
      have lc : oc < 4294967296 := by rw [hoc]; exact Crc.on_lt (by omega) _
      rw [← ha, ← hob, ← hoc, ← hod] at E
      have X1 := xor_u32 oa ob la lb
      have X2 := xor_u32 (oa ^^^ ob) oc (Nat.xor_lt_two_pow (n := 32) la lb) lc
      rw [E] at X2
      obtain ⟨oe, hoe⟩ : ∃ o, o = oa ^^^ ob := ⟨_, rfl⟩
      rw [← hoe] at X1 X2
      have PA := fun (W : World) (B : Nat) (hR : Rd W B Aa j (ts.map fun x => x.1)) (hB : B ≤ W.heap.size) => sOf_any W B Aa j ca _ hR hB (by omega)
      have PB := fun (W : World) (B : Nat) (hR : Rd W B Ab j (ts.map fun x => x.2.1)) (hB : B ≤ W.heap.size) => sOf_any W B Ab j cb _ hR hB (by omega)
      have PC := fun (W : World) (B : Nat) (hR : Rd W B Ac j (ts.map fun x => x.2.2)) (hB : B ≤ W.heap.size) => sOf_any W B Ac j cc _ hR hB (by omega)
      have PD := fun (W : World) (B : Nat) (hR : Rd W B Ad j (ts.map fun x => x.1 ^^^ x.2.1 ^^^ x.2.2)) (hB : B ≤ W.heap.size) => sOf_any W B Ad j cd _ hR hB (by omega)
      rw [← ha] at PA
      rw [← hob] at PB
      rw [← hoc] at PC
      rw [← hod] at PD
      have QA := Lib.hid PA
      have QB := Lib.hid PB
      have QC := Lib.hid PC
      have QD := Lib.hid PD
      clear PA PB PC PD ha hob hoc hod hoe E
      go_wp2_with fail
      refine (QA.out wr wr.heap.size Ra.out (Nat.le_refl _)).mono ?_
      rintro e w1 ⟨rfl, hb1⟩
      have s1 := hb1.size
      go_wp2_with fail
      refine (QB.out w1 wr.heap.size (Rb.out.below hb1) s1).mono ?_
      rintro e w2 ⟨rfl, hb2⟩
      have hb2 := hb1.trans (hb2.mono s1)
      have s2 := hb2.size
      clear hb1
      go_wp2_with fail
      refine (QC.out w2 wr.heap.size (Rc.out.below hb2) s2).mono ?_
      rintro e w3 ⟨rfl, hb3⟩
      have hb3 := hb2.trans (hb3.mono s2)
      have s3 := hb3.size
      clear hb2
      go_wp2_with fail
      refine (QD.out w3 wr.heap.size (Rx.out.below hb3) s3).mono ?_
      rintro e w4 ⟨rfl, hb4⟩
      have hb4 := hb3.trans (hb4.mono s3)
      have s4 := hb4.size
      clear hb3
      go_wp2_with fail
      refine (awake_any _).mono ?_
      rintro e w5 ⟨rfl, hb5⟩
      go_wp2_with fail
      go_ret
      exact ⟨rfl, hbel.trans ((hb4.trans (hb5.mono s4)).mono hbs)⟩

set_option maxRecDepth 100000 in
set_option maxHeartbeats 800000 in
theorem turns_long (A : Option Addr) (n c : Nat) (w : World) (_hn : ¬ (n : Int) ≤ 700) :
    Calls Try.prog 8 #[.slice A n c] w fun e w' => e = .returned (.bool true) ∧ Below w.heap.size w w' := by
  go_enter Try.func8, Try.ntmps8
  go_wp2_with fail
  refine (awake_any _).mono ?_
  rintro e w4 ⟨rfl, hb4⟩
  go_wp2_with fail
  go_ret
  exact ⟨rfl, hb4⟩

end Go.Proofs.Ytpenilbnhhcmiaa
