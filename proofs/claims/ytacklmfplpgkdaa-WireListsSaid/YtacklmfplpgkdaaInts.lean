/- Contract of wire.TakeInts. -/
import Derived.Test.YtacklmfplpgkdaaText
namespace Go.Proofs.Ytacklmfplpgkdaa
open Go.RowKit

theorem Try.infoI : (Try.prog.info? 3).map (fun i => (i.zero, i.size, i.bytes)) = some (some (.int .i64 0), 1, 8) := by kernel_rfl

/-- the values of a list of bytes, two each -/
def wsOf (bs : List UInt8) (m : Nat) : List Int := (List.range m).map fun i => w16 (beN ((bs.drop (2 * i)).take 2) : Nat)

/-- what TakeInts comes to -/
def inS (l : List UInt8) (most x err : Int) : List Int × Int × Int :=
  if (sz l most x err).2.2 ≠ 0 then ([], x, (sz l most x err).2.2)
  else if (nx l (sz l most x err).2.1 (2 * (sz l most x err).1) 0).2.2 ≠ 0 then ([], x, (nx l (sz l most x err).2.1 (2 * (sz l most x err).1) 0).2.2)
  else (wsOf (nx l (sz l most x err).2.1 (2 * (sz l most x err).1) 0).1 (sz l most x err).1.toNat, (nx l (sz l most x err).2.1 (2 * (sz l most x err).1) 0).2.1, 0)

/-- ints as cells -/
def ic (zs : List Int) : List Value := zs.map (Value.int .i64)

/-- What a function leaves that hands back ints, and a reader. -/
def IntsP (w : World) (A : Option Addr) (n c : Nat) (r : List Int × Int × Int) (e : Ending) (w' : World) : Prop :=
  ∃ A' n' c', e = .returned (.tuple #[.slice A' n' c', rv A n c r.2.1 r.2.2]) ∧ RdI w' w'.heap.size A' n' r.1 ∧ Below w.heap.size w w' ∧ ∀ ad, A' = some ad → w.heap.size ≤ ad.block

theorem RdI.nil_ (w : World) (B : Nat) : RdI w B none 0 [] := ⟨rfl, fun h => absurd h (by omega), fun j => by simp⟩

theorem ic_length (zs : List Int) : (ic zs).length = zs.length := by simp [ic]

theorem RdI.of_own {w : World} {base : Nat} {e : TypeId} {A : Option Addr} {n c : Nat} {zs : List Int} (h : w.ownsRow base e 1 (.slice A n c) n (ic zs)) (hz : ∀ j, -9223372036854775808 ≤ zs.getD j 0 ∧ zs.getD j 0 ≤ 9223372036854775807) : RdI w w.heap.size A n zs := by
  have hl : zs.length = n := by have := h.1; rw [ic_length] at this; omega
  refine ⟨hl, fun hn => ?_, hz⟩
  obtain ⟨g, cap, hv, _, hlt⟩ := h.form hn
  have hA : A = some ⟨g, 0, Option.none⟩ := by injection hv
  subst hA
  refine ⟨_, rfl, hlt, fun j hj => h.cells (g := g) rfl j _ ?_⟩
  simp [ic, List.getD, hj]

theorem wsOf_length (bs : List UInt8) (m : Nat) : (wsOf bs m).length = m := by simp [wsOf]

theorem wsOf_get (bs : List UInt8) (m j : Nat) (hj : j < m) : (wsOf bs m).getD j 0 = w16 (beN ((bs.drop (2 * j)).take 2) : Nat) := by
  simp [wsOf, List.getD, hj]

theorem wsOf_fits (bs : List UInt8) (m : Nat) : ∀ j, -9223372036854775808 ≤ (wsOf bs m).getD j 0 ∧ (wsOf bs m).getD j 0 ≤ 9223372036854775807 := by
  intro j
  by_cases hj : j < m
  · rw [wsOf_get bs m j hj]
    have := w16_bounds (beN ((bs.drop (2 * j)).take 2) : Nat)
    omega
  · have e : (wsOf bs m).getD j 0 = 0 := by
      rw [List.getD, List.getElem?_eq_none (by rw [wsOf_length]; omega)]
      rfl
    rw [e]
    omega

/-- the list while it is filled -/
def fillI (zs : List Int) (j : Nat) : List Value := ic (zs.take j) ++ List.replicate (zs.length - j) (Value.int .i64 0)

theorem fillI_zero (zs : List Int) : fillI zs 0 = List.replicate zs.length (Value.int .i64 0) := by simp [fillI, ic]

theorem fillI_all (zs : List Int) : fillI zs zs.length = ic zs := by simp [fillI]

theorem fillI_len (zs : List Int) (j : Nat) (hj : j ≤ zs.length) : (fillI zs j).length = zs.length := by
  simp [fillI, ic]
  omega

theorem fillI_set (zs : List Int) (j : Nat) (hj : j < zs.length) : (fillI zs j).set j (Value.int .i64 (zs.getD j 0)) = fillI zs (j + 1) := by
  unfold fillI
  have hl : (ic (zs.take j)).length = j := by rw [ic_length, List.length_take]; omega
  rw [List.set_append_right _ _ (by omega), hl, Nat.sub_self]
  have hr : zs.length - j = (zs.length - (j + 1)) + 1 := by omega
  rw [hr, List.replicate_succ, List.set_cons_zero, List.take_succ_eq_append_getElem hj]
  simp only [ic, List.map_append, List.map_cons, List.map_nil, List.append_assoc, List.cons_append, List.nil_append, List.getD, List.getElem?_eq_getElem hj, Option.getD_some]

theorem fillI_at (zs : List Int) (j : Nat) (hj : j < zs.length) : (fillI zs j)[j]? = some (Value.int .i64 0) := by
  unfold fillI
  have hl : (ic (zs.take j)).length = j := by rw [ic_length, List.length_take]; omega
  rw [List.getElem?_append_right (by omega), hl, Nat.sub_self, List.getElem?_replicate, if_pos (by omega)]

set_option maxRecDepth 100000 in
set_option maxHeartbeats 3200000 in
theorem tInts_any (w : World) (B : Nat) (A : Option Addr) (n c : Nat) (l : List UInt8) (x err most : Int) (h : Rd w B A n l) (hB : B ≤ w.heap.size) (hx : x ≤ 9223372036854775807) (hc : n ≤ c) (hnm : (n : Int) ≤ 1000000) (hcm : (c : Int) ≤ 9223372036854775807) :
    Calls Try.prog 39 #[rv A n c x err, .int .i64 most] w (IntsP w A n c (inS l most x err)) := by
  obtain ⟨i0, hi, hz, hsz, hby⟩ := info_parts Try.infoI
  have hlen := h.1
  have HS := Lib.hid (fun (W : World) (hR : Rd W B A n l) (hBW : B ≤ W.heap.size) => tSize_any W B A n c l x err most hR hBW hx hc hnm hcm)
  have hsb := sz_bounds l most x err
  have hse := sz_err l most x err
  unfold inS
  obtain ⟨r, hr⟩ : ∃ r, r = sz l most x err := ⟨_, rfl⟩
  rw [← hr] at HS hsb hse ⊢
  clear hr
  obtain ⟨m, x1, e1⟩ := r
  simp only at HS hsb hse ⊢
  have hm0 : 0 ≤ m := by
    by_cases h0 : e1 = 0
    · exact (hsb h0).1
    · rw [(hse h0).1]; exact Int.le_refl _
  have hm1 : m ≤ 4398046511104 := by
    by_cases h0 : e1 = 0
    · exact (hsb h0).2.1
    · rw [(hse h0).1]; omega
  have hx1 : x1 ≤ 9223372036854775807 := by
    by_cases h0 : e1 = 0
    · have := (hsb h0).2.2.2.2; omega
    · rw [(hse h0).2]; exact hx
  have HN := Lib.hid (fun (W : World) (hR : Rd W B A n l) (hBW : B ≤ W.heap.size) => next_any W B A n c l x1 (2 * m) e1 hR hBW (by omega) hx1 hc hnm hcm)
  have hq : (if e1 ≠ 0 then (([] : List Int), x, e1) else if (nx l x1 (2 * m) 0).2.2 ≠ 0 then ([], x, (nx l x1 (2 * m) 0).2.2) else (wsOf (nx l x1 (2 * m) 0).1 m.toNat, (nx l x1 (2 * m) 0).2.1, 0)) =
      (if (nx l x1 (2 * m) e1).2.2 ≠ 0 then (([] : List Int), x, (nx l x1 (2 * m) e1).2.2) else (wsOf (nx l x1 (2 * m) e1).1 m.toNat, (nx l x1 (2 * m) e1).2.1, 0)) := by
    by_cases h0 : e1 = 0
    · subst h0; rw [if_neg (by simp)]
    · have e : nx l x1 (2 * m) e1 = ([], x1, e1) := by unfold nx; rw [if_pos h0]
      rw [if_pos h0, e, if_pos h0]
  rw [hq]
  clear hq hsb hse
  have hql : (nx l x1 (2 * m) e1).2.2 = 0 → ((nx l x1 (2 * m) e1).1.length : Int) = 2 * m ∧ 2 * m ≤ 1000000 := by
    intro h0
    unfold nx at h0 ⊢
    by_cases h1 : e1 = 0
    · rw [if_neg (by simpa using h1)] at h0 ⊢
      by_cases h2 : x1 < 0 ∨ (l.length : Int) - x1 < 2 * m
      · rw [if_pos h2] at h0; simp at h0
      · rw [if_neg h2]
        simp only [List.length_take, List.length_drop]
        omega
    · rw [if_pos h1] at h0; exact absurd h0 h1
  obtain ⟨q, hq⟩ : ∃ q, q = nx l x1 (2 * m) e1 := ⟨_, rfl⟩
  rw [← hq] at HN hql ⊢
  clear hq
  obtain ⟨bs, x2, e2⟩ := q
  simp only at HN hql ⊢
  have H := Lib.hid h
  clear h
  by_cases he2 : e2 = 0
  · subst he2
    rw [if_neg (by simp)]
    obtain ⟨M, rfl⟩ : ∃ M : Nat, m = (M : Int) := ⟨m.toNat, by omega⟩
    rw [Int.toNat_natCast]
    obtain ⟨hbl, hMb⟩ := hql rfl
    have HBL := Lib.hid hbl
    clear hbl hql hm1
    obtain ⟨zs, hzs⟩ : ∃ zs, zs = wsOf bs M := ⟨_, rfl⟩
    have HZ := Lib.hid hzs
    rw [← hzs]
    have hzl : zs.length = M := by rw [hzs, wsOf_length]
    have HZL := Lib.hid hzl
    clear hzs hzl
    go_enter Try.func39, Try.ntmps39
    go_wp2_with fail
    refine (HS.out _ (H.out.below ((((Below.refl _ _).alloc (Nat.le_refl _) _).alloc (by simp) _).mono hB)) (by simp; omega)).mono ?_
    rintro e w1 ⟨rfl, hb1⟩
    have hbel1 : Below w.heap.size w w1 := (((Below.refl _ _).alloc (Nat.le_refl _) _).alloc (by simp) _).trans (hb1.mono (by simp; omega))
    have b5 := (Blk.new_at (w.alloc (.cells #[.slice A n c, .int .i64 x, .int .i64 err] 37)) 37 #[.slice none 0 0, .int .i64 0, .int .i64 0] (w.heap.size + 1) (by simp)).below hb1 (by simp)
    have B5 := Lib.hid b5
    clear b5 hb1
    have hs1 := hbel1.size
    go_wp2_with fail
    refine (HN.out _ (H.out.below ((hbel1.alloc hs1 _).mono hB)) (by simp; omega)).mono ?_
    rintro e w2 ⟨A', n', c', rfl, hR, hn'2, hb2, hnc, hcc⟩
    have hbel2 : Below w.heap.size w w2 := (hbel1.alloc hs1 (.cells #[.slice A n c, .int .i64 x1, .int .i64 e1] 37)).trans (hb2.mono (by simp; omega))
    have hs2 := hbel2.size
    have b5 := (B5.out.alloc _).below hb2 (by simp; have := B5.out.lt; omega)
    have hlt5 := b5.lt
    have B51 := Lib.hid (b5.alloc (.cells #[.slice A n c, .int .i64 x2, .int .i64 0] 37))
    have B91 := Lib.hid (Blk.new w2 37 #[.slice A n c, .int .i64 x2, .int .i64 0])
    have R21 := Lib.hid (hR.alloc (by omega : B ≤ w2.heap.size) (.cells #[.slice A n c, .int .i64 x2, .int .i64 0] 37))
    have hbel21 : Below w.heap.size w (w2.alloc (.cells #[.slice A n c, .int .i64 x2, .int .i64 0] 37)) := hbel2.alloc hs2 _
    have hn'M : (n' : Int) = 2 * M := by
      have h8 := hR.1
      have h9 := HBL.out
      simp only at h8
      omega
    have HNM := Lib.hid hn'M
    clear b5 hb2 hR B5 hbel1 hn'M
    go_wp2_with (at_make; refine wpList_make_full _ rfl _ _ 32 rfl w.heap.size 3 i0 _ 1 Try.underlying32 hi hz hsz .i64 .i64 _ _ M rfl rfl rfl rfl (by rw [hby]; omega) (by unfold maxLen; omega) (by simp; omega) ?_)
    intro w3 hown3 hg3
    have hbel3 : Below w.heap.size w w3 := hbel21.grown hg3 (by simp; omega) (by simp)
    have b53 := B51.out.grown hg3 (by simp)
    have b93 := B91.out.grown hg3 (by simp)
    have R3 := R21.out.below ((Below.refl _ _).grown hg3 (by simp; omega) (by simp) : Below B _ w3)
    have ho3 : w3.ownsRow w.heap.size 3 1 (.slice (some ⟨w2.heap.size + 1, 0, none⟩) M M) M (fillI zs 0) := by
      have e : (madeCells #[Value.int IntKind.i64 0] M).toList = fillI zs 0 := by
        rw [fillI_zero, HZL.out]
        exact toList_madeCells_one _ _
      rw [e] at hown3
      simpa using hown3
    have HO3 := Lib.hid ho3
    have B53 := Lib.hid b53
    have B93 := Lib.hid b93
    have RR3 := Lib.hid R3
    clear hown3 ho3 hg3 b53 b93 R3 B51 B91 R21 hbel21 hbel2
    have hs3 := hbel3.size
    have hg3s : w2.heap.size + 1 < w3.heap.size := (HO3.out.lt _ rfl).2
    go_wp2_with fail
    go_loopw [36] (fun i wr => ∃ (j : Nat), j ≤ M ∧ i = .int .i64 j ∧ wr.ownsRow w.heap.size 3 1 (.slice (some ⟨w2.heap.size + 1, 0, none⟩) M M) M (fillI zs j) ∧
        Blk wr (w.heap.size + 1) 37 #[.slice none 0 0, .int .i64 0, .int .i64 0] ∧ Blk wr w2.heap.size 37 #[.slice A n c, .int .i64 x2, .int .i64 0] ∧ Rd wr B A' n' bs ∧ Below w.heap.size w wr)
      (fun i _ => M - (intOf i).toNat)
    case atStart => exact ⟨0, Nat.zero_le _, rfl, HO3.out, B53.out, B93.out, RR3.out, hbel3⟩
    case round =>
      obtain ⟨j, hj, rfl, ho, b5, b9, hR, hbel⟩ := hrel
      have HO := Lib.hid ho
      have B5r := Lib.hid b5
      have B9r := Lib.hid b9
      have RR := Lib.hid hR
      have hbs := hbel.size
      have hlt9 := b9.lt
      clear ho b5 b9 hR
      by_cases hlt : j < M
      · have ca := HO.out.cellAt j (by omega)
        rw [fillI_at zs j (by rw [HZL.out]; exact hlt)] at ca
        have fa := HO.out.frozenAt j
        have hnn : 2 * j + 2 ≤ n' := by have := HNM.out; omega
        have hne : ¬ c' = 2 * j := by omega
        have hcm' : (c' : Int) ≤ 9223372036854775807 := by omega
        have hnm' : (n' : Int) ≤ 9223372036854775807 := by omega
        obtain ⟨t, ht⟩ : ∃ t : Nat, t = beN ((bs.drop (2 * j)).take 2) := ⟨_, rfl⟩
        have HJ := Lib.hid (joinI_any wr B _ 2 (c' - 2 * j) _ (RR.out.cut (2 * j) 2 hnn) (by omega))
        have htl : (t : Int) < 65536 := by
          have h9 := beN_lt ((bs.drop (2 * j)).take 2)
          have h8 : 256 ^ ((bs.drop (2 * j)).take 2).length ≤ 256 ^ 2 := Nat.pow_le_pow_right (by omega) (by rw [List.length_take]; omega)
          rw [← ht] at h9
          omega
        rw [← ht] at HJ
        have HT := Lib.hid ht
        clear ht
        go_wp2_with fail
        refine HJ.out.mono ?_
        rintro e w4 ⟨rfl, rfl⟩
        go_wp2_with fail
        refine (nWrap_any _ _ (by omega) (by omega)).mono ?_
        rintro e w4 ⟨rfl, rfl⟩
        go_wp2_with fail
        go_roundw
        case rel =>
          obtain ⟨s1, s2⟩ := HO.out.stored j (Value.int .i64 (w16 t))
          have hv : w16 t = zs.getD j 0 := by rw [HZ.out, wsOf_get bs M j hlt, HT.out]
          refine ⟨j + 1, by omega, by go_num, ?_, B5r.out.grown s2 (some_ne (by omega)), B9r.out.grown s2 (some_ne (by omega)), RR.out.below ⟨s2.os, s2.tape, s2.output, s2.size, fun k hk => s2.block k (by omega) (some_ne (by omega))⟩, hbel.setCell (by simp; omega) _⟩
          rw [← fillI_set zs j (by rw [HZL.out]; exact hlt), ← hv]
          exact s1
        case measure => simp [intOf]; omega
      · have k0 := B5r.out.cell 0
        have k1 := B5r.out.cell 1
        have k2 := B5r.out.cell 2
        have f0 := B5r.out.frozen 0
        have f1 := B5r.out.frozen 1
        have f2 := B5r.out.frozen 2
        have m0 := B9r.out.cell 0
        have m1 := B9r.out.cell 1
        have m2 := B9r.out.cell 2
        simp only [List.getElem?_toArray, List.getElem?_cons_zero, List.getElem?_cons_succ] at k0 k1 k2 m0 m1 m2
        go_wp2_with fail
        go_region
        all_goals
          go_wp2
          refine bodyPost_ret (v := .tuple #[.slice (some ⟨w2.heap.size + 1, 0, none⟩) M M, rv A n c x2 0]) (by simp [results, Try.results39, go_sem, k0, k1, k2]) rfl ⟨_, _, _, rfl, ?_, (((hbel.setCell (by simp) _).setCell (by simp) _).setCell (by simp) _).drew, fun ad had => by injection had with had; subst had; show w.heap.size ≤ w2.heap.size + 1; omega⟩
          have e : j = M := by omega
          have ho := HO.out
          rw [e, ← HZL.out, fillI_all, HZL.out] at ho
          have hf : ∀ j, -9223372036854775808 ≤ zs.getD j 0 ∧ zs.getD j 0 ≤ 9223372036854775807 := by rw [HZ.out]; exact wsOf_fits bs M
          have hg := gb_set (gb_set (gb_set (World.grownBy.refl wr (some (w.heap.size + 1))) 0 (.slice A n c)) 1 (.int .i64 x2)) 2 (.int .i64 0)
          exact RdI.of_own ((ho.kept hg (.inr (show some (w2.heap.size + 1) ≠ some (w.heap.size + 1) from some_ne (by omega)))).drew) hf
  · rw [if_pos he2]
    have hbe : (e2 == 0) = false := beq_eq_false_iff_ne.2 he2
    have hbe2 : (e2 != 0) = true := by rw [bne_iff_ne]; exact he2
    go_enter Try.func39, Try.ntmps39
    go_wp2_with fail
    refine (HS.out _ (H.out.below ((((Below.refl _ _).alloc (Nat.le_refl _) _).alloc (by simp) _).mono hB)) (by simp; omega)).mono ?_
    rintro e w1 ⟨rfl, hb1⟩
    have hbel1 : Below w.heap.size w w1 := (((Below.refl _ _).alloc (Nat.le_refl _) _).alloc (by simp) _).trans (hb1.mono (by simp; omega))
    have B5 := Lib.hid ((Blk.new_at (w.alloc (.cells #[.slice A n c, .int .i64 x, .int .i64 err] 37)) 37 #[.slice none 0 0, .int .i64 0, .int .i64 0] (w.heap.size + 1) (by simp)).below hb1 (by simp))
    have B2 := Lib.hid (((Blk.new w 37 #[.slice A n c, .int .i64 x, .int .i64 err]).alloc (.cells #[.slice none 0 0, .int .i64 0, .int .i64 0] 37)).below hb1 (by simp; omega))
    clear hb1
    have hs1 := hbel1.size
    go_wp2_with fail
    refine (HN.out _ (H.out.below ((hbel1.alloc hs1 _).mono hB)) (by simp; omega)).mono ?_
    rintro e w2 ⟨A', n', c', rfl, _, _, hb2, _⟩
    have hbel2 : Below w.heap.size w w2 := (hbel1.alloc hs1 (.cells #[.slice A n c, .int .i64 x1, .int .i64 e1] 37)).trans (hb2.mono (by simp; omega))
    have B51 := Lib.hid ((B5.out.alloc _).below hb2 (by simp; have := B5.out.lt; omega))
    have b21 := (B2.out.alloc _).below hb2 (by simp; have := B2.out.lt; omega)
    have hlt2 := b21.lt
    have hlt5 := B51.out.lt
    have d20 := b21.cell 0
    have d21 := b21.cell 1
    have d22 := b21.cell 2
    simp only [List.getElem?_toArray, List.getElem?_cons_zero, List.getElem?_cons_succ] at d20 d21 d22
    have hs2 := hbel2.size
    clear hb2 b21 B5 B2
    go_wp2_with fail
    refine (failed_any _ _ _ _ _ _ _).mono ?_
    rintro e w3 ⟨rfl, hb3⟩
    have hbel3 : Below w.heap.size w w3 := (hbel2.alloc hs2 (.cells #[.slice A n c, .int .i64 x2, .int .i64 e2] 37)).trans (hb3.mono (by simp; omega))
    have b52 := (B51.out.alloc (.cells #[.slice A n c, .int .i64 x2, .int .i64 e2] 37)).below hb3 (by simp; omega)
    have k0 := b52.cell 0
    have k1 := b52.cell 1
    have k2 := b52.cell 2
    have f0 := b52.frozen 0
    have f1 := b52.frozen 1
    have f2 := b52.frozen 2
    simp only [List.getElem?_toArray, List.getElem?_cons_zero, List.getElem?_cons_succ] at k0 k1 k2
    clear b52 hb3
    go_wp2_with fail
    refine bodyPost_ret (v := .tuple #[.slice none 0 0, rv A n c x e2]) (by simp [results, Try.results39, go_sem, k0, k1, k2]) rfl ⟨none, 0, 0, rfl, RdI.nil_ _ _, ?_, fun ad had => by cases had⟩
    exact ((hbel3.setCell (by simp) _).setCell (by simp) _).setCell (by simp) _


end Go.Proofs.Ytacklmfplpgkdaa
