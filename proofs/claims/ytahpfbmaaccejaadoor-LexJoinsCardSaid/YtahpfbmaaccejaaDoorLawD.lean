/- The walk of the statement LexJoins. -/
import Derived.Test.YtahpfbmaaccejaaDoorLawC
namespace Go.Proofs.YtahpfbmaaccejaaDoor
open Go.RowKit

theorem left_at {ts tb : List Tk} {e : Tk} (j : Nat) (h : j < ts.length) : (ts ++ tb)[j]?.getD noTk = (ts ++ [e])[j]?.getD noTk := by
  rw [List.getElem?_append_left h, List.getElem?_append_left h]

theorem right_at {ts tb : List Tk} (d j k : Nat) (h : j = ts.length + k) (hk : k < tb.length) : (ts ++ tb.map (shTk d))[j]?.getD noTk = shTk d (tb[k]?.getD noTk) := by
  rw [List.getElem?_append_right (by omega), show j - ts.length = k from by omega, List.getElem?_map, List.getElem?_eq_getElem hk]
  rfl

set_option maxRecDepth 100000 in
set_option maxHeartbeats 12800000 in
theorem joins_walk (a b : ByteArray) (w : World) (hP : Pw w) :
    Calls Tryd.prog 7 #[.string a, .string b] w fun e w' => e = .returned (.bool true) ∧ Below w.heap.size w w' := by
  have HP := Lib.hid hP
  clear hP
  by_cases hna : (a.size : Int) ≤ 400
  · have hna2 : ¬ (400 : Int) < a.size := by omega
    by_cases hnb : (b.size : Int) ≤ 400
    · have hla : a.data.toList.length = a.size := by rw [Array.length_toList]; rfl
      have hlb : b.data.toList.length = b.size := by rw [Array.length_toList]; rfl
      obtain ⟨j1, j2⟩ := lex_join keyB a.data.toList b.data.toList (by omega) (by omega)
      obtain ⟨oa, oa2⟩ := lexL_ok keyB a.data.toList
      obtain ⟨ob, ob2⟩ := lexL_ok keyB b.data.toList
      have hd := posL_line a.data.toList
      obtain ⟨d, hdd⟩ : ∃ d, d = (posL a.data.toList).1 := ⟨_, rfl⟩
      rw [← hdd] at hd j2
      have hd1 : 1 ≤ d := by omega
      clear hd hdd
      obtain ⟨⟨ta, f1, f2, f3⟩, hRA⟩ : ∃ R, R = lexL keyB a.data.toList := ⟨_, rfl⟩
      obtain ⟨⟨tb, g1, g2, g3⟩, hRB⟩ : ∃ R, R = lexL keyB b.data.toList := ⟨_, rfl⟩
      obtain ⟨⟨tn, h1, h2, h3⟩, hRN⟩ : ∃ R, R = lexL keyB (a.data.toList ++ 10 :: b.data.toList) := ⟨_, rfl⟩
      rw [← hRA] at j1 j2 oa oa2
      rw [← hRB] at j2 ob ob2
      rw [← hRN] at j1 j2
      have HRA := Lib.hid hRA
      have HRB := Lib.hid hRB
      have HRN := Lib.hid hRN
      have J1 := Lib.hid j1
      have J2 := Lib.hid j2
      have OA := Lib.hid oa
      have OA2 := Lib.hid oa2
      have OB := Lib.hid ob
      have OB2 := Lib.hid ob2
      have hadd1 : ∀ W : World, (Op.stringOp .add a ⟨#[10]⟩).run Tryd.prog W = .ok (.string (bs (a.data.toList ++ [10]))) W := fun W => by
        have h := add_bs9 a.data.toList [10] (by omega) (by simp) W
        rw [bs_data] at h
        exact h
      have hadd2 : ∀ W : World, (Op.stringOp .add (bs (a.data.toList ++ [10])) b).run Tryd.prog W = .ok (.string (bs (a.data.toList ++ 10 :: b.data.toList))) W := fun W => by
        have h := add_bs9 (a.data.toList ++ [10]) b.data.toList (by rw [List.length_append, List.length_singleton]; omega) (by omega) W
        rw [bs_data, List.append_assoc] at h
        exact h
      have HAB : Hid ((bs (a.data.toList ++ 10 :: b.data.toList)).data.toList = a.data.toList ++ 10 :: b.data.toList) := Lib.hid (by simp [bs])
      have HSZ : Hid (((bs (a.data.toList ++ 10 :: b.data.toList)).size : Int) ≤ 60000) := Lib.hid (by
        rw [bs_size, List.length_append, List.length_cons, hla, hlb]
        omega)
      have HLA := Lib.hid hla
      clear j1 j2 oa oa2 ob ob2 hRA hRB hRN hla hlb
      go_enter Tryd.func7, Tryd.ntmps7
      go_wp2_with fail
      refine (All_any w a (by omega) HP.out).mono ?_
      rintro e w1 ⟨A1, n1, c1, he, ho, hb⟩
      rw [← HRA.out] at he ho
      subst he
      have HO1 := Lib.hid ho
      have HB1 := Lib.hid hb
      clear ho hb
      go_wp2_with (refine wpList_store_row rfl 28 _ _ rfl w1.heap.size #[.int .i64 f1, .int .i64 f2, .int .i64 f3] rfl rfl _ _ (Blk.new w1 _ _) fail_size rfl (three_ints _ _ _) ?_; obtain ⟨V1, hV1⟩ : ∃ V, V = (w1.alloc (.cells #[.int .i64 0, .int .i64 0, .int .i64 0] 28)).setRow w1.heap.size #[.int .i64 f1, .int .i64 f2, .int .i64 f3] := ⟨_, rfl⟩; rw [← hV1]; obtain ⟨hkV1, hbV1⟩ := put_tok hV1; have HKV1 := Lib.hid hkV1; have HBV1 := Lib.hid hbV1; clear hV1 hkV1 hbV1)
      refine (All_any V1 b (by omega) ((HP.out.below HB1.out (Nat.le_refl _)).below HBV1.out (Nat.le_refl _))).mono ?_
      rintro e w2 ⟨A2, n2, c2, he, ho, hb⟩
      rw [← HRB.out] at he ho
      subst he
      have HO1a := Lib.hid (own_below (own_below HO1.out HBV1.out) hb)
      have HO2 := Lib.hid ho
      have HBa := Lib.hid (HB1.out.trans (HBV1.out.mono HB1.out.size))
      have HB2 := Lib.hid (HBa.out.trans (hb.mono HBa.out.size))
      have HK1 := Lib.hid (HKV1.out.below hb HKV1.out.lt)
      clear ho hb
      go_wp2_with (refine wpList_store_row rfl 28 _ _ rfl w2.heap.size #[.int .i64 g1, .int .i64 g2, .int .i64 g3] rfl rfl _ _ (Blk.new w2 _ _) fail_size rfl (three_ints _ _ _) ?_; obtain ⟨V2, hV2⟩ : ∃ V, V = (w2.alloc (.cells #[.int .i64 0, .int .i64 0, .int .i64 0] 28)).setRow w2.heap.size #[.int .i64 g1, .int .i64 g2, .int .i64 g3] := ⟨_, rfl⟩; rw [← hV2]; obtain ⟨hkV2, hbV2⟩ := put_tok hV2; have HKV2 := Lib.hid hkV2; have HBV2 := Lib.hid hbV2; clear hV2 hkV2 hbV2)
      refine (All_any V2 (bs (a.data.toList ++ 10 :: b.data.toList)) HSZ.out ((HP.out.below HB2.out (Nat.le_refl _)).below HBV2.out (Nat.le_refl _))).mono ?_
      rintro e w3 ⟨A3, n3, c3, he, ho, hb⟩
      rw [HAB.out, ← HRN.out] at he ho
      subst he
      have HO1b := Lib.hid (own_below (own_below HO1a.out HBV2.out) hb)
      have HO2b := Lib.hid (own_below (own_below HO2.out HBV2.out) hb)
      have HO3 := Lib.hid ho
      have HBb := Lib.hid (HB2.out.trans (HBV2.out.mono HB2.out.size))
      have HB3 := Lib.hid (HBb.out.trans (hb.mono HBb.out.size))
      have HK1b := Lib.hid ((HK1.out.below HBV2.out HK1.out.lt).below hb (HK1.out.below HBV2.out HK1.out.lt).lt)
      have HK2b := Lib.hid (HKV2.out.below hb HKV2.out.lt)
      clear ho hb hadd1 hadd2
      have hn1 : ta.length = n1 := ownT_len HO1.out
      have hn2 : tb.length = n2 := ownT_len HO2.out
      have hn3 : tn.length = n3 := ownT_len HO3.out
      by_cases hf : f1 = 0
      · obtain ⟨e1, us, e2, _, _, e5⟩ := OA2.out hf
        have e1' : (f1, f2, f3) = ((0, 0, 0) : Int × Int × Int) := e1
        obtain ⟨ts, k1, k2, k3⟩ := J2.out hf
        have k1' : ta = ts ++ [endTk a.data.toList a.data.toList.length] := k1
        injection e1' with _ e1'
        injection e1' with hf2 hf3
        subst hf hf2 hf3
        clear e1 e2 e5
        have fzg : ∀ (x y : Operand) (W : World), (eqGuard .neq 28 x y (.agg #[.int .i64 0, .int .i64 0, .int .i64 0]) (.agg #[.int .i64 0, .int .i64 0, .int .i64 0])).run Tryd.prog W = .ok () W := fun x y W => guard_fail .neq x y (0, 0, 0) (0, 0, 0) W
        have fzr : ∀ W : World, (binOp .neq 28 (.agg #[.int .i64 0, .int .i64 0, .int .i64 0]) (.agg #[.int .i64 0, .int .i64 0, .int .i64 0])).run Tryd.prog W = .ok (.bool false) W := fun W => by
          have h := run_neq_fail (0, 0, 0) (0, 0, 0) W
          rw [decide_eq_true rfl] at h
          exact h
        by_cases hg : g1 = 0
        · obtain ⟨e1, us2, e2, _, _, e5⟩ := OB2.out hg
          have e1' : (g1, g2, g3) = ((0, 0, 0) : Int × Int × Int) := e1
          have e2' : tb = us2 ++ [endTk b.data.toList b.data.toList.length] := e2
          injection e1' with _ e1'
          injection e1' with hg2 hg3
          subst hg hg2 hg3
          have k3' : (tn, h1, h2, h3) = (ts ++ tb.map (shTk d), ((0, 0, 0) : Int × Int × Int)) := k3.trans (if_pos rfl)
          injection k3' with k4 k5
          injection k5 with k5 k6
          injection k6 with k6 k7
          subst k5 k6 k7
          have htb : tb.length = us2.length + 1 := by rw [e2', List.length_append, List.length_singleton]
          have hta : ta.length = ts.length + 1 := by rw [k1', List.length_append, List.length_singleton]
          have htn : tn.length = ts.length + tb.length := by rw [k4, List.length_append, List.length_map]
          have e5' : us2.length ≤ b.data.toList.length := e5
          have hlb : b.data.toList.length = b.size := by rw [Array.length_toList]; rfl
          have hla := HLA.out
          have m1 : n1 = ts.length + 1 := by omega
          have m2 : 1 ≤ n2 ∧ n2 ≤ 500 := by omega
          have m3 : ts.length ≤ 500 := by omega
          have m4 : n3 + 1 = n1 + n2 := by omega
          have HL : Hid (∀ j, j + 1 < n1 → tn[j]?.getD noTk = ta[j]?.getD noTk) := Lib.hid (fun j hj => by rw [k4, k1']; exact left_at j (by omega))
          have HRR : Hid (∀ j k, j + 1 = n1 + k → k < n2 → tn[j]?.getD noTk = shTk d (tb[k]?.getD noTk)) := Lib.hid (fun j k hj hk => by rw [k4]; exact right_at d j k (by omega) (by omega))
          have mm : 1 ≤ n1 ∧ n1 ≤ 501 := by omega
          clear e1 e2 e2' e5 e5' k1 k1' k2 k3 k4 htb hta htn hlb hla m1 m3 hn1 hn2 hn3
          have t1 : ((n1 : Int) == 0) = false := by rw [beq_eq_false_iff_ne]; omega
          have v1 : IntKind.i64.wrap ((n1 : Int) - 1) = (n1 : Int) - 1 := IntWalk.i64_in _ (by omega)
          have v2 : IntKind.i64.wrap ((n1 : Int) - 1 + (n2 : Int)) = (n3 : Int) := by rw [IntWalk.i64_in _ (by omega)]; omega
          have t2 : ((n3 : Int) != (n3 : Int)) = false := by simp
          go_wp2_with (refine wpList_store_row rfl 28 _ _ rfl w3.heap.size #[.int .i64 0, .int .i64 0, .int .i64 0] rfl rfl _ _ (Blk.new w3 _ _) fail_size rfl (three_ints _ _ _) ?_; obtain ⟨V3, hV3⟩ : ∃ V, V = (w3.alloc (.cells #[.int .i64 0, .int .i64 0, .int .i64 0] 28)).setRow w3.heap.size #[.int .i64 0, .int .i64 0, .int .i64 0] := ⟨_, rfl⟩; rw [← hV3]; obtain ⟨hkV3, hbV3⟩ := put_tok hV3; have HKV3 := Lib.hid hkV3; have HBV3 := Lib.hid hbV3; clear hV3 hkV3 hbV3; have HO1c := Lib.hid (own_below HO1b.out HBV3.out); have HO2c := Lib.hid (own_below HO2b.out HBV3.out); have HO3c := Lib.hid (own_below HO3.out HBV3.out); have HBX := Lib.hid (HB3.out.trans (HBV3.out.mono HB3.out.size)); have HK1c := Lib.hid (HK1b.out.below HBV3.out HK1b.out.lt); have HK2c := Lib.hid (HK2b.out.below HBV3.out HK2b.out.lt); have p0 : V3.cell? ⟨w1.heap.size, 0, none⟩ = some (.int .i64 0) := HK1c.out.cell 0; have p1 : V3.cell? ⟨w1.heap.size, 1, none⟩ = some (.int .i64 0) := HK1c.out.cell 1; have p2 : V3.cell? ⟨w1.heap.size, 2, none⟩ = some (.int .i64 0) := HK1c.out.cell 2; have q0 : V3.cell? ⟨w2.heap.size, 0, none⟩ = some (.int .i64 0) := HK2c.out.cell 0; have q1 : V3.cell? ⟨w2.heap.size, 1, none⟩ = some (.int .i64 0) := HK2c.out.cell 1; have q2 : V3.cell? ⟨w2.heap.size, 2, none⟩ = some (.int .i64 0) := HK2c.out.cell 2; have r0 : V3.cell? ⟨w3.heap.size, 0, none⟩ = some (.int .i64 0) := HKV3.out.cell 0; have r1 : V3.cell? ⟨w3.heap.size, 1, none⟩ = some (.int .i64 0) := HKV3.out.cell 1; have r2 : V3.cell? ⟨w3.heap.size, 2, none⟩ = some (.int .i64 0) := HKV3.out.cell 2)
          have HR1 := Lib.hid (RdT.of_own HO1c.out)
          have HR2 := Lib.hid (RdT.of_own HO2c.out)
          have HR3 := Lib.hid (RdT.of_own HO3c.out)
          go_loopw [95] (fun vj wr => ∃ j : Nat, j ≤ n3 ∧ vj = .int .i64 j ∧ Hid (Below V3.heap.size V3 wr)) (fun vj _ => n3 - (intOf vj).toNat)
          case atStart => exact ⟨0, Nat.zero_le _, rfl, Lib.hid (Below.refl _ _)⟩
          case round =>
            clear p0 p1 p2 q0 q1 q2 r0 r1 r2
            obtain ⟨j, hj, rfl, HBR⟩ := hrel
            by_cases hlt : j < n3
            · obtain ⟨ad3, hA3, _⟩ := load_tok HR3.out hlt
              subst hA3
              obtain ⟨a0, a1, a2, a3, a4⟩ := tok_cells (HR3.out.below HBR.out) hlt
              obtain ⟨t, ht⟩ : ∃ t, t = tn[j]?.getD noTk := ⟨_, rfl⟩
              rw [← ht] at a0 a1 a2 a3 a4
              obtain ⟨kd, x, nm, ln, co⟩ := t
              by_cases hside : j + 1 < n1
              · have hjn : j < n1 := by omega
                obtain ⟨ad1, hA1, _⟩ := load_tok HR1.out hjn
                subst hA1
                have htt := HL.out j hside
                rw [← ht] at htt
                have HTT := Lib.hid htt
                have i0 : decide ((j : Int) < (n1 : Int) - 1) = true := decide_eq_true (by omega)
                have i1 : decide ((n1 : Int) - 1 ≤ (j : Int)) = false := decide_eq_false (by omega)
                have ix : (0 : Int) ≤ (j : Int) ∧ (j : Int) < (n1 : Int) := ⟨by omega, by omega⟩
                have xg : ∀ (y z : Operand) (W : World), (eqGuard .neq 34 y z (.agg #[.int .i64 kd, .string (bs x), .int .i64 nm, .int .i64 ln, .int .i64 co]) (.agg #[.int .i64 kd, .string (bs x), .int .i64 nm, .int .i64 ln, .int .i64 co])).run Tryd.prog W = .ok () W := fun y z W => guard_tok .neq y z ⟨kd, x, nm, ln, co⟩ ⟨kd, x, nm, ln, co⟩ W
                have xr : ∀ W : World, (binOp .neq 34 (.agg #[.int .i64 kd, .string (bs x), .int .i64 nm, .int .i64 ln, .int .i64 co]) (.agg #[.int .i64 kd, .string (bs x), .int .i64 nm, .int .i64 ln, .int .i64 co])).run Tryd.prog W = .ok (.bool false) W := fun W => by
                  have h := run_neq_tok ⟨kd, x, nm, ln, co⟩ ⟨kd, x, nm, ln, co⟩ W
                  rw [decide_eq_true rfl] at h
                  exact h
                clear htt ht
                go_wp2_with (refine wpList_store_row rfl 34 _ _ rfl wr.heap.size #[.int .i64 kd, .string (bs x), .int .i64 nm, .int .i64 ln, .int .i64 co] rfl rfl _ _ (Blk.new wr _ _) tok_size rfl (five_one _ _ _ _ _) ?_; obtain ⟨V, hV⟩ : ∃ V, V = (wr.alloc (.cells #[.int .i64 0, .string ⟨#[]⟩, .int .i64 0, .int .i64 0, .int .i64 0] 34)).setRow wr.heap.size #[.int .i64 kd, .string (bs x), .int .i64 nm, .int .i64 ln, .int .i64 co] := ⟨_, rfl⟩; rw [← hV]; obtain ⟨hkV, hbV⟩ := put_tok hV; have HKV := Lib.hid hkV; have HBV := Lib.hid hbV; clear hV hkV hbV; have z0 : V.cell? ⟨wr.heap.size, 0, none⟩ = some (.int .i64 kd) := HKV.out.cell 0; have z1 : V.cell? ⟨wr.heap.size, 1, none⟩ = some (.string (bs x)) := HKV.out.cell 1; have z2 : V.cell? ⟨wr.heap.size, 2, none⟩ = some (.int .i64 nm) := HKV.out.cell 2; have z3 : V.cell? ⟨wr.heap.size, 3, none⟩ = some (.int .i64 ln) := HKV.out.cell 3; have z4 : V.cell? ⟨wr.heap.size, 4, none⟩ = some (.int .i64 co) := HKV.out.cell 4; have HBF := Lib.hid (HBR.out.trans (HBV.out.mono HBR.out.size)); have HBD : ∀ q, Hid (Below V3.heap.size V3 (V.drewN q)) := fun q => Lib.hid (below_drewN9 HBF.out q); obtain ⟨b0, b1, b2, b3, b4⟩ := tok_cells (HR1.out.below HBF.out) hjn; rw [← HTT.out] at b0 b1 b2 b3 b4)
                clear a0 a1 a2 a3 a4
                go_quiet (fail)
                go_wp2_with fail
                go_roundw
                case rel => exact ⟨j + 1, by omega, by go_num, HBD _⟩
                case measure => simp [intOf]; omega
              · obtain ⟨k, hk⟩ : ∃ k, j + 1 = n1 + k := ⟨j + 1 - n1, by omega⟩
                have hkn : k < n2 := by omega
                obtain ⟨ad2, hA2, _⟩ := load_tok HR2.out hkn
                subst hA2
                have htt := HRR.out j k hk hkn
                rw [← ht] at htt
                obtain ⟨pt, hpt⟩ : ∃ t, t = tb[k]?.getD noTk := ⟨_, rfl⟩
                rw [← hpt] at htt
                obtain ⟨pk, px, pn, pl, pc⟩ := pt
                have htt' : (⟨kd, x, nm, ln, co⟩ : Tk) = ⟨pk, px, pn, pl + (d : Int), pc⟩ := htt
                injection htt' with s1 s2 s3 s4 s5
                subst s1 s2 s3
                clear s4 s5 htt
                have i0 : decide ((j : Int) < (n1 : Int) - 1) = false := decide_eq_false (by omega)
                have i1 : decide ((n1 : Int) - 1 ≤ (j : Int)) = true := decide_eq_true (by omega)
                have i2 : IntKind.i64.wrap ((j : Int) - (n1 : Int)) = (j : Int) - (n1 : Int) := IntWalk.i64_in _ (by omega)
                have i3 : IntKind.i64.wrap ((j : Int) - (n1 : Int) + 1) = (k : Int) := by rw [IntWalk.i64_in _ (by omega)]; omega
                have ix : (0 : Int) ≤ (k : Int) ∧ (k : Int) < (n2 : Int) := ⟨by omega, by omega⟩
                have t3 : (kd != kd) = false := by simp
                have t4 : (nm != nm) = false := by simp
                have t5 : ((bs x).toList != (bs x).toList) = false := by simp
                have HPT := Lib.hid hpt
                clear hk hpt ht
                go_wp2_with (refine wpList_store_row rfl 34 _ _ rfl wr.heap.size #[.int .i64 kd, .string (bs x), .int .i64 nm, .int .i64 ln, .int .i64 co] rfl rfl _ _ (Blk.new wr _ _) tok_size rfl (five_one _ _ _ _ _) ?_; obtain ⟨V, hV⟩ : ∃ V, V = (wr.alloc (.cells #[.int .i64 0, .string ⟨#[]⟩, .int .i64 0, .int .i64 0, .int .i64 0] 34)).setRow wr.heap.size #[.int .i64 kd, .string (bs x), .int .i64 nm, .int .i64 ln, .int .i64 co] := ⟨_, rfl⟩; rw [← hV]; obtain ⟨hkV, hbV⟩ := put_tok hV; have HKV := Lib.hid hkV; have HBV := Lib.hid hbV; clear hV hkV hbV; have z0 : V.cell? ⟨wr.heap.size, 0, none⟩ = some (.int .i64 kd) := HKV.out.cell 0; have z1 : V.cell? ⟨wr.heap.size, 1, none⟩ = some (.string (bs x)) := HKV.out.cell 1; have z2 : V.cell? ⟨wr.heap.size, 2, none⟩ = some (.int .i64 nm) := HKV.out.cell 2; have z3 : V.cell? ⟨wr.heap.size, 3, none⟩ = some (.int .i64 ln) := HKV.out.cell 3; have z4 : V.cell? ⟨wr.heap.size, 4, none⟩ = some (.int .i64 co) := HKV.out.cell 4; have HBF := Lib.hid (HBR.out.trans (HBV.out.mono HBR.out.size)); have HBD : ∀ q, Hid (Below V3.heap.size V3 (V.drewN q)) := fun q => Lib.hid (below_drewN9 HBF.out q); obtain ⟨b0, b1, b2, _, _⟩ := tok_cells (HR2.out.below HBF.out) hkn; rw [← HPT.out] at b0 b1 b2)
                clear a0 a1 a2 a3 a4
                go_quiet (fail)
                go_wp2_with fail
                go_roundw
                case rel => exact ⟨j + 1, by omega, by go_num, HBD _⟩
                case measure => simp [intOf]; omega
            · obtain rfl : j = n3 := by omega
              have HBR2 := Lib.hid (HBX.out.trans (HBR.out.mono HBX.out.size))
              go_wp2_with fail
              refine (awake_any wr (HP.out.below HBR2.out (Nat.le_refl _))).mono ?_
              rintro e w9 ⟨rfl, hb9⟩
              have HB9 := Lib.hid (HBR2.out.trans (hb9.mono HBR2.out.size))
              clear hb9
              go_wp2_with fail
              go_ret
              exact ⟨rfl, HB9.out⟩
        · have k3' : (tn, h1, h2, h3) = ([], (g1, g2 + (d : Int), g3)) := k3.trans (if_neg hg)
          injection k3' with k4 k5
          injection k5 with k5 k6
          injection k6 with k6 k7
          subst k4 k5 k6 k7
          have hne : ¬ (h1, g2, h3) = ((0, 0, 0) : Int × Int × Int) := fun e => hg (by injection e)
          have t1 : (h1 == h1) = true := by simp
          have t2 : (h3 == h3) = true := by simp
          have t3 : g2 < g2 + (d : Int) := by omega
          have gng : ∀ (x y : Operand) (W : World), (eqGuard .neq 28 x y (.agg #[.int .i64 h1, .int .i64 g2, .int .i64 h3]) (.agg #[.int .i64 0, .int .i64 0, .int .i64 0])).run Tryd.prog W = .ok () W := fun x y W => guard_fail .neq x y (h1, g2, h3) (0, 0, 0) W
          have gnr : ∀ W : World, (binOp .neq 28 (.agg #[.int .i64 h1, .int .i64 g2, .int .i64 h3]) (.agg #[.int .i64 0, .int .i64 0, .int .i64 0])).run Tryd.prog W = .ok (.bool true) W := fun W => by
            have h := run_neq_fail (h1, g2, h3) (0, 0, 0) W
            rw [decide_eq_false hne] at h
            exact h
          clear hne hg k1 k1' k2 k3
          go_wp2_with (refine wpList_store_row rfl 28 _ _ rfl w3.heap.size #[.int .i64 h1, .int .i64 (g2 + (d : Int)), .int .i64 h3] rfl rfl _ _ (Blk.new w3 _ _) fail_size rfl (three_ints _ _ _) ?_; obtain ⟨V3, hV3⟩ : ∃ V, V = (w3.alloc (.cells #[.int .i64 0, .int .i64 0, .int .i64 0] 28)).setRow w3.heap.size #[.int .i64 h1, .int .i64 (g2 + (d : Int)), .int .i64 h3] := ⟨_, rfl⟩; rw [← hV3]; obtain ⟨hkV3, hbV3⟩ := put_tok hV3; have HKV3 := Lib.hid hkV3; have HBV3 := Lib.hid hbV3; clear hV3 hkV3 hbV3; have HO1c := Lib.hid (own_below HO1b.out HBV3.out); have HO2c := Lib.hid (own_below HO2b.out HBV3.out); have HO3c := Lib.hid (own_below HO3.out HBV3.out); have HBX := Lib.hid (HB3.out.trans (HBV3.out.mono HB3.out.size)); have HK1c := Lib.hid (HK1b.out.below HBV3.out HK1b.out.lt); have HK2c := Lib.hid (HK2b.out.below HBV3.out HK2b.out.lt); have p0 : V3.cell? ⟨w1.heap.size, 0, none⟩ = some (.int .i64 0) := HK1c.out.cell 0; have p1 : V3.cell? ⟨w1.heap.size, 1, none⟩ = some (.int .i64 0) := HK1c.out.cell 1; have p2 : V3.cell? ⟨w1.heap.size, 2, none⟩ = some (.int .i64 0) := HK1c.out.cell 2; have q0 : V3.cell? ⟨w2.heap.size, 0, none⟩ = some (.int .i64 h1) := HK2c.out.cell 0; have q1 : V3.cell? ⟨w2.heap.size, 1, none⟩ = some (.int .i64 g2) := HK2c.out.cell 1; have q2 : V3.cell? ⟨w2.heap.size, 2, none⟩ = some (.int .i64 h3) := HK2c.out.cell 2; have r0 : V3.cell? ⟨w3.heap.size, 0, none⟩ = some (.int .i64 h1) := HKV3.out.cell 0; have r1 : V3.cell? ⟨w3.heap.size, 1, none⟩ = some (.int .i64 (g2 + (d : Int))) := HKV3.out.cell 1; have r2 : V3.cell? ⟨w3.heap.size, 2, none⟩ = some (.int .i64 h3) := HKV3.out.cell 2)
          refine (awake_any V3 (HP.out.below HBX.out (Nat.le_refl _))).mono ?_
          rintro e w9 ⟨rfl, hb9⟩
          have HB9 := Lib.hid (HBX.out.trans (hb9.mono HBX.out.size))
          clear hb9
          go_wp2_with fail
          go_ret
          exact ⟨rfl, HB9.out⟩
      · obtain ⟨e1, _⟩ := OA.out hf
        have e1' : ta = [] := e1
        have k3 := J1.out hf
        injection k3 with k4 k5
        injection k5 with k5 k6
        injection k6 with k6 k7
        rw [e1'] at k4
        subst k4 k5 k6 k7
        obtain rfl : n3 = 0 := hn3.symm
        have hne : ¬ (h1, h2, h3) = ((0, 0, 0) : Int × Int × Int) := fun e => hf (by injection e)
        have fng : ∀ (x y : Operand) (W : World), (eqGuard .neq 28 x y (.agg #[.int .i64 h1, .int .i64 h2, .int .i64 h3]) (.agg #[.int .i64 0, .int .i64 0, .int .i64 0])).run Tryd.prog W = .ok () W := fun x y W => guard_fail .neq x y (h1, h2, h3) (0, 0, 0) W
        have fnr : ∀ W : World, (binOp .neq 28 (.agg #[.int .i64 h1, .int .i64 h2, .int .i64 h3]) (.agg #[.int .i64 0, .int .i64 0, .int .i64 0])).run Tryd.prog W = .ok (.bool true) W := fun W => by
          have h := run_neq_fail (h1, h2, h3) (0, 0, 0) W
          rw [decide_eq_false hne] at h
          exact h
        have feg : ∀ (x y : Operand) (W : World), (eqGuard .eql 28 x y (.agg #[.int .i64 h1, .int .i64 h2, .int .i64 h3]) (.agg #[.int .i64 h1, .int .i64 h2, .int .i64 h3])).run Tryd.prog W = .ok () W := fun x y W => guard_fail .eql x y (h1, h2, h3) (h1, h2, h3) W
        have fer : ∀ W : World, (binOp .eql 28 (.agg #[.int .i64 h1, .int .i64 h2, .int .i64 h3]) (.agg #[.int .i64 h1, .int .i64 h2, .int .i64 h3])).run Tryd.prog W = .ok (.bool true) W := fun W => by
          have h := run_eql_fail (h1, h2, h3) (h1, h2, h3) W
          rw [decide_eq_true rfl] at h
          exact h
        clear hne hf e1 e1'
        go_wp2_with (refine wpList_store_row rfl 28 _ _ rfl w3.heap.size #[.int .i64 h1, .int .i64 h2, .int .i64 h3] rfl rfl _ _ (Blk.new w3 _ _) fail_size rfl (three_ints _ _ _) ?_; obtain ⟨V3, hV3⟩ : ∃ V, V = (w3.alloc (.cells #[.int .i64 0, .int .i64 0, .int .i64 0] 28)).setRow w3.heap.size #[.int .i64 h1, .int .i64 h2, .int .i64 h3] := ⟨_, rfl⟩; rw [← hV3]; obtain ⟨hkV3, hbV3⟩ := put_tok hV3; have HKV3 := Lib.hid hkV3; have HBV3 := Lib.hid hbV3; clear hV3 hkV3 hbV3; have HO1c := Lib.hid (own_below HO1b.out HBV3.out); have HO2c := Lib.hid (own_below HO2b.out HBV3.out); have HO3c := Lib.hid (own_below HO3.out HBV3.out); have HBX := Lib.hid (HB3.out.trans (HBV3.out.mono HB3.out.size)); have HK1c := Lib.hid (HK1b.out.below HBV3.out HK1b.out.lt); have HK2c := Lib.hid (HK2b.out.below HBV3.out HK2b.out.lt); have p0 : V3.cell? ⟨w1.heap.size, 0, none⟩ = some (.int .i64 h1) := HK1c.out.cell 0; have p1 : V3.cell? ⟨w1.heap.size, 1, none⟩ = some (.int .i64 h2) := HK1c.out.cell 1; have p2 : V3.cell? ⟨w1.heap.size, 2, none⟩ = some (.int .i64 h3) := HK1c.out.cell 2; have q0 : V3.cell? ⟨w2.heap.size, 0, none⟩ = some (.int .i64 g1) := HK2c.out.cell 0; have q1 : V3.cell? ⟨w2.heap.size, 1, none⟩ = some (.int .i64 g2) := HK2c.out.cell 1; have q2 : V3.cell? ⟨w2.heap.size, 2, none⟩ = some (.int .i64 g3) := HK2c.out.cell 2; have r0 : V3.cell? ⟨w3.heap.size, 0, none⟩ = some (.int .i64 h1) := HKV3.out.cell 0; have r1 : V3.cell? ⟨w3.heap.size, 1, none⟩ = some (.int .i64 h2) := HKV3.out.cell 1; have r2 : V3.cell? ⟨w3.heap.size, 2, none⟩ = some (.int .i64 h3) := HKV3.out.cell 2)
        refine (awake_any V3 (HP.out.below HBX.out (Nat.le_refl _))).mono ?_
        rintro e w9 ⟨rfl, hb9⟩
        have HB9 := Lib.hid (HBX.out.trans (hb9.mono HBX.out.size))
        clear hb9
        go_wp2_with fail
        go_ret
        exact ⟨rfl, HB9.out⟩
    · have hbig : (400 : Int) < b.size := by omega
      go_enter Tryd.func7, Tryd.ntmps7
      go_wp2_with fail
      refine (awake_any w HP.out).mono ?_
      rintro e w1 ⟨rfl, hb1⟩
      go_wp2_with fail
      go_ret
      exact ⟨rfl, hb1⟩
  · have hbig : (400 : Int) < a.size := by omega
    go_enter Tryd.func7, Tryd.ntmps7
    go_wp2_with fail
    refine (awake_any w HP.out).mono ?_
    rintro e w1 ⟨rfl, hb1⟩
    go_wp2_with fail
    go_ret
    exact ⟨rfl, hb1⟩

end Go.Proofs.YtahpfbmaaccejaaDoor
