/- The walk of the statement LexPlaces. -/
import Derived.Test.YtahpfbmaaccejaaDoorLawA
import Derived.Deep.RegionHeld3
namespace Go.Proofs.YtahpfbmaaccejaaDoor
open Go.RowKit

theorem feeds_eq (l : List UInt8) : feedsN l = feedsL l := List.countP_eq_length_filter
theorem feeds_b (w : World) (s : ByteArray) (hs : (s.size : Int) ≤ 100000) : Calls Tryd.prog 18 #[.string s] w fun e w' => e = .returned (.int .i64 (feedsN s.data.toList : Nat)) ∧ Below w.heap.size w w' :=
  (feeds_any w s hs).mono fun _ _ h => ⟨h.1, by rw [← h.2]; exact Below.refl _ _⟩

theorem pair_at {ts : List Tk} (h : ts.Pairwise ltT) {k j : Nat} (hk : j = k + 1) (hj : j < ts.length) : ltT (ts[k]?.getD noTk) (ts[j]?.getD noTk) := by
  have hk2 : k < ts.length := by omega
  rw [List.getElem?_eq_getElem hk2, List.getElem?_eq_getElem hj]
  exact List.pairwise_iff_getElem.1 h k j hk2 hj (by omega)

theorem end_at {ts : List Tk} {e : Tk} (he : e.kind = 0) (h : ∀ t ∈ ts, t.kind ≠ 0) (j : Nat) (hj : j < ts.length + 1) : (((ts ++ [e])[j]?.getD noTk).kind = 0 ↔ j = ts.length) := by
  by_cases hl : j < ts.length
  · rw [List.getElem?_append_left hl, List.getElem?_eq_getElem hl]
    constructor
    · intro h0; exact absurd h0 (h _ (List.getElem_mem hl))
    · intro h0; omega
  · obtain rfl : j = ts.length := by omega
    simp [he]

set_option maxRecDepth 100000 in
set_option maxHeartbeats 12800000 in
theorem places_walk (s : ByteArray) (w : World) (hP : Pw w) :
    Calls Tryd.prog 6 #[.string s] w fun e w' => e = .returned (.bool true) ∧ Below w.heap.size w w' := by
  have HP := Lib.hid hP
  clear hP
  by_cases hn : (s.size : Int) ≤ 600
  · have hl : s.data.toList.length = s.size := by rw [Array.length_toList]; rfl
    obtain ⟨o1, o2⟩ := lexL_ok keyB s.data.toList
    obtain ⟨⟨ts, a, b, d⟩, hR⟩ : ∃ R, R = lexL keyB s.data.toList := ⟨_, rfl⟩
    rw [← hR] at o1 o2
    have HR := Lib.hid hR
    clear hR
    by_cases h0 : a = 0
    · obtain ⟨e1, us, e2, e3, e4, e5⟩ := o2 h0
      clear o1 o2
      have hbd : b = 0 ∧ d = 0 := by injection e1 with _ h; injection h with h1 h2; exact ⟨h1, h2⟩
      obtain ⟨hb0, hd0⟩ := hbd
      have e2' : ts = us ++ [endTk s.data.toList s.data.toList.length] := e2
      have e4' : ts.Pairwise ltT := e4
      have htl : ts.length = us.length + 1 := by rw [e2', List.length_append, List.length_singleton]
      have HK0 : Hid (∀ j, j < ts.length → ((ts[j]?.getD noTk).kind = 0 ↔ j = ts.length - 1)) := Lib.hid (fun j hj => by
        have h := end_at (e := endTk s.data.toList s.data.toList.length) rfl e3 j (by omega)
        rw [← e2'] at h
        rw [h]
        omega)
      have HPW := Lib.hid e4'
      have HTL : Hid (1 ≤ ts.length) := Lib.hid (by omega)
      have hul : ts.length ≤ 700 := by rw [hl] at e5; omega
      clear e1 e2 e2' e3 e4 e4' e5 htl hl
      subst h0 hb0 hd0
      have r5 : ∀ (x y : Operand) (W : World), (eqGuard .neq 28 x y (.agg #[.int .i64 0, .int .i64 0, .int .i64 0]) (.agg #[.int .i64 0, .int .i64 0, .int .i64 0])).run Tryd.prog W = .ok () W := fun x y W => guard_fail .neq x y (0, 0, 0) (0, 0, 0) W
      have r6 : ∀ W : World, (binOp .neq 28 (.agg #[.int .i64 0, .int .i64 0, .int .i64 0]) (.agg #[.int .i64 0, .int .i64 0, .int .i64 0])).run Tryd.prog W = .ok (.bool false) W := fun W => run_neq_fail (0, 0, 0) (0, 0, 0) W
      go_enter Tryd.func6, Tryd.ntmps6
      go_wp2_with fail
      refine (All_any w s (by omega) HP.out).mono ?_
      rintro e w1 ⟨A, n, c, he, ho, hb⟩
      rw [← HR.out] at he ho
      subst he
      have hnl : ts.length = n := ownT_len ho
      have HNL := Lib.hid hnl
      have hn1 : 1 ≤ n := by have := HTL.out; omega
      have hn7 : n ≤ 700 := by omega
      have HO := Lib.hid ho
      have HB := Lib.hid hb
      clear ho hb hnl hul
      go_wp2_with (refine wpList_store_row rfl 28 _ _ rfl w1.heap.size #[.int .i64 0, .int .i64 0, .int .i64 0] rfl rfl _ _ (Blk.new w1 _ _) fail_size rfl (three_ints _ _ _) ?_; obtain ⟨V1, hV1⟩ : ∃ V, V = (w1.alloc (.cells #[.int .i64 0, .int .i64 0, .int .i64 0] 28)).setRow w1.heap.size #[.int .i64 0, .int .i64 0, .int .i64 0] := ⟨_, rfl⟩; rw [← hV1]; obtain ⟨hkV1, hbV1⟩ := put_tok hV1; have HKV1 := Lib.hid hkV1; have HBV1 := Lib.hid hbV1; clear hV1 hkV1 hbV1; have HO1 := Lib.hid (own_below HO.out HBV1.out); have HBX := Lib.hid (HB.out.trans (HBV1.out.mono HB.out.size)); have p0 : V1.cell? ⟨w1.heap.size, 0, none⟩ = some (.int .i64 0) := HKV1.out.cell 0; have p1 : V1.cell? ⟨w1.heap.size, 1, none⟩ = some (.int .i64 0) := HKV1.out.cell 1; have p2 : V1.cell? ⟨w1.heap.size, 2, none⟩ = some (.int .i64 0) := HKV1.out.cell 2)
      have HRD := Lib.hid (RdT.of_own HO1.out)
      go_loopw [58] (fun vj wr => ∃ j : Nat, j ≤ n ∧ vj = .int .i64 j ∧ Hid (Below V1.heap.size V1 wr)) (fun vj _ => n - (intOf vj).toNat)
      case atStart => exact ⟨0, Nat.zero_le _, rfl, Lib.hid (Below.refl _ _)⟩
      case round =>
        clear p0 p1 p2
        obtain ⟨j, hj, rfl, HBR⟩ := hrel
        by_cases hlt : j < n
        · obtain ⟨ad, hA, _⟩ := load_tok HRD.out hlt
          subst hA
          obtain ⟨a0, a1, a2, a3, a4⟩ := tok_cells (HRD.out.below HBR.out) hlt
          obtain ⟨t, ht⟩ : ∃ t, t = ts[j]?.getD noTk := ⟨_, rfl⟩
          have hkd := HK0.out j (by have := HNL.out; omega)
          rw [← ht] at a0 a1 a2 a3 a4 hkd
          have HT := Lib.hid ht
          clear ht
          obtain ⟨kd, x, nm, ln, co⟩ := t
          have hkd2 : kd = 0 ↔ j = n - 1 := by have := HNL.out; rw [← this]; exact hkd
          clear hkd
          by_cases hj0 : j = 0
          · have i0 : decide (0 < j) = false := decide_eq_false (by omega)
            have wn : IntKind.i64.wrap ((n : Int) - 1) = (n : Int) - 1 := IntWalk.i64_in _ (by omega)
            have HLT := True.intro
            by_cases hz : kd = 0
            · have hjn : j = n - 1 := hkd2.1 hz
              have t1 : (kd == 0) = true := by rw [beq_iff_eq]; exact hz
              have t2 : ((j : Int) == (n : Int) - 1) = true := by rw [beq_iff_eq]; omega
              clear hkd2 hz hjn hj0
              clear HLT
              go_wp2_with (refine wpList_store_row rfl 34 _ _ rfl wr.heap.size #[.int .i64 kd, .string (bs x), .int .i64 nm, .int .i64 ln, .int .i64 co] rfl rfl _ _ (Blk.new wr _ _) tok_size rfl (five_one _ _ _ _ _) ?_; obtain ⟨V, hV⟩ : ∃ V, V = (wr.alloc (.cells #[.int .i64 0, .string ⟨#[]⟩, .int .i64 0, .int .i64 0, .int .i64 0] 34)).setRow wr.heap.size #[.int .i64 kd, .string (bs x), .int .i64 nm, .int .i64 ln, .int .i64 co] := ⟨_, rfl⟩; rw [← hV]; obtain ⟨hkV, hbV⟩ := put_tok hV; have HKV := Lib.hid hkV; have HBV := Lib.hid hbV; clear hV hkV hbV; have f0 : V.cell? ⟨wr.heap.size, 0, none⟩ = some (.int .i64 kd) := HKV.out.cell 0; have f3 : V.cell? ⟨wr.heap.size, 3, none⟩ = some (.int .i64 ln) := HKV.out.cell 3; have f4 : V.cell? ⟨wr.heap.size, 4, none⟩ = some (.int .i64 co) := HKV.out.cell 4; have HBF := Lib.hid (HBR.out.trans (HBV.out.mono HBR.out.size)); have HBD : ∀ q, Hid (Below V1.heap.size V1 (V.drewN q)) := fun q => Lib.hid (below_drewN9 HBF.out q))
              clear a0 a1 a2 a3 a4
              go_quiet (fail)
              go_wp2_with fail
              go_roundw
              case rel => exact ⟨j + 1, by omega, by go_num, HBD _⟩
              case measure => simp [intOf]; omega
            · have hjn : ¬ j = n - 1 := fun h => hz (hkd2.2 h)
              have t1 : (kd == 0) = false := by rw [beq_eq_false_iff_ne]; exact hz
              have t2 : ((j : Int) == (n : Int) - 1) = false := by rw [beq_eq_false_iff_ne]; omega
              clear hkd2 hz hjn hj0
              clear HLT
              go_wp2_with (refine wpList_store_row rfl 34 _ _ rfl wr.heap.size #[.int .i64 kd, .string (bs x), .int .i64 nm, .int .i64 ln, .int .i64 co] rfl rfl _ _ (Blk.new wr _ _) tok_size rfl (five_one _ _ _ _ _) ?_; obtain ⟨V, hV⟩ : ∃ V, V = (wr.alloc (.cells #[.int .i64 0, .string ⟨#[]⟩, .int .i64 0, .int .i64 0, .int .i64 0] 34)).setRow wr.heap.size #[.int .i64 kd, .string (bs x), .int .i64 nm, .int .i64 ln, .int .i64 co] := ⟨_, rfl⟩; rw [← hV]; obtain ⟨hkV, hbV⟩ := put_tok hV; have HKV := Lib.hid hkV; have HBV := Lib.hid hbV; clear hV hkV hbV; have f0 : V.cell? ⟨wr.heap.size, 0, none⟩ = some (.int .i64 kd) := HKV.out.cell 0; have f3 : V.cell? ⟨wr.heap.size, 3, none⟩ = some (.int .i64 ln) := HKV.out.cell 3; have f4 : V.cell? ⟨wr.heap.size, 4, none⟩ = some (.int .i64 co) := HKV.out.cell 4; have HBF := Lib.hid (HBR.out.trans (HBV.out.mono HBR.out.size)); have HBD : ∀ q, Hid (Below V1.heap.size V1 (V.drewN q)) := fun q => Lib.hid (below_drewN9 HBF.out q))
              clear a0 a1 a2 a3 a4
              go_quiet (fail)
              go_wp2_with fail
              go_roundw
              case rel => exact ⟨j + 1, by omega, by go_num, HBD _⟩
              case measure => simp [intOf]; omega
          · obtain ⟨k, hk⟩ : ∃ k, j = k + 1 := ⟨j - 1, by omega⟩
            have hp := pair_at HPW.out hk (by rw [HNL.out]; exact hlt)
            rw [← HT.out] at hp
            obtain ⟨pt, hpt⟩ : ∃ t, t = ts[k]?.getD noTk := ⟨_, rfl⟩
            rw [← hpt] at hp
            obtain ⟨pk, px, pn, pl, pc⟩ := pt
            have hkn : k < n := by omega
            have hp2 : pl < ln ∨ (pl = ln ∧ pc < co) := hp
            have i0 : decide (0 < j) = true := decide_eq_true (by omega)
            have i1 : ((j : Int) - 1) = (k : Int) := by omega
            have wn : IntKind.i64.wrap ((n : Int) - 1) = (n : Int) - 1 := IntWalk.i64_in _ (by omega)
            have wj : IntKind.i64.wrap ((j : Int) - 1) = (k : Int) := by rw [i1]; exact IntWalk.i64_in _ (by omega)
            have wk : IntKind.i64.wrap (k : Int) = (k : Int) := IntWalk.i64_in _ (by omega)
            have ix : (0 : Int) ≤ (k : Int) ∧ (k : Int) < (n : Int) := ⟨by omega, by omega⟩
            have i2 : decide (ln < pl) = false := decide_eq_false (by omega)
            have HLT := True.intro
            clear hp hk hj0
            have hc : (pl = ln ∧ ¬ co ≤ pc) ∨ ln ≠ pl := by omega
            clear hp2
            by_cases hz : kd = 0
            · have hjn : j = n - 1 := hkd2.1 hz
              have t1 : (kd == 0) = true := by rw [beq_iff_eq]; exact hz
              have t2 : ((k : Int) + 1 == (n : Int) - 1) = true := by rw [beq_iff_eq]; omega
              have t3 : ((j : Int) == (n : Int) - 1) = true := by rw [beq_iff_eq]; omega
              clear hkd2 hz hjn
              rcases hc with ⟨hq, h4⟩ | hq
              · have t4 : (ln == pl) = true := by rw [beq_iff_eq]; exact hq.symm
                have h5 : decide (co ≤ pc) = false := decide_eq_false h4
                clear hq h4
                clear HLT
                go_wp2_with (refine wpList_store_row rfl 34 _ _ rfl wr.heap.size #[.int .i64 kd, .string (bs x), .int .i64 nm, .int .i64 ln, .int .i64 co] rfl rfl _ _ (Blk.new wr _ _) tok_size rfl (five_one _ _ _ _ _) ?_; obtain ⟨V, hV⟩ : ∃ V, V = (wr.alloc (.cells #[.int .i64 0, .string ⟨#[]⟩, .int .i64 0, .int .i64 0, .int .i64 0] 34)).setRow wr.heap.size #[.int .i64 kd, .string (bs x), .int .i64 nm, .int .i64 ln, .int .i64 co] := ⟨_, rfl⟩; rw [← hV]; obtain ⟨hkV, hbV⟩ := put_tok hV; have HKV := Lib.hid hkV; have HBV := Lib.hid hbV; clear hV hkV hbV; have f0 : V.cell? ⟨wr.heap.size, 0, none⟩ = some (.int .i64 kd) := HKV.out.cell 0; have f3 : V.cell? ⟨wr.heap.size, 3, none⟩ = some (.int .i64 ln) := HKV.out.cell 3; have f4 : V.cell? ⟨wr.heap.size, 4, none⟩ = some (.int .i64 co) := HKV.out.cell 4; have HBF := Lib.hid (HBR.out.trans (HBV.out.mono HBR.out.size)); have HBD : ∀ q, Hid (Below V1.heap.size V1 (V.drewN q)) := fun q => Lib.hid (below_drewN9 HBF.out q); obtain ⟨_, _, _, b3, b4⟩ := tok_cells (HRD.out.below HBF.out) hkn; rw [← hpt] at b3 b4)
                clear a0 a1 a2 a3 a4
                go_quiet (fail)
                go_wp2_with fail
                go_roundw
                case rel => exact ⟨j + 1, by omega, by go_num, HBD _⟩
                case measure => simp [intOf]; omega
              · have t4 : (ln == pl) = false := by rw [beq_eq_false_iff_ne]; exact hq
                clear hq
                clear HLT
                go_wp2_with (refine wpList_store_row rfl 34 _ _ rfl wr.heap.size #[.int .i64 kd, .string (bs x), .int .i64 nm, .int .i64 ln, .int .i64 co] rfl rfl _ _ (Blk.new wr _ _) tok_size rfl (five_one _ _ _ _ _) ?_; obtain ⟨V, hV⟩ : ∃ V, V = (wr.alloc (.cells #[.int .i64 0, .string ⟨#[]⟩, .int .i64 0, .int .i64 0, .int .i64 0] 34)).setRow wr.heap.size #[.int .i64 kd, .string (bs x), .int .i64 nm, .int .i64 ln, .int .i64 co] := ⟨_, rfl⟩; rw [← hV]; obtain ⟨hkV, hbV⟩ := put_tok hV; have HKV := Lib.hid hkV; have HBV := Lib.hid hbV; clear hV hkV hbV; have f0 : V.cell? ⟨wr.heap.size, 0, none⟩ = some (.int .i64 kd) := HKV.out.cell 0; have f3 : V.cell? ⟨wr.heap.size, 3, none⟩ = some (.int .i64 ln) := HKV.out.cell 3; have f4 : V.cell? ⟨wr.heap.size, 4, none⟩ = some (.int .i64 co) := HKV.out.cell 4; have HBF := Lib.hid (HBR.out.trans (HBV.out.mono HBR.out.size)); have HBD : ∀ q, Hid (Below V1.heap.size V1 (V.drewN q)) := fun q => Lib.hid (below_drewN9 HBF.out q); obtain ⟨_, _, _, b3, b4⟩ := tok_cells (HRD.out.below HBF.out) hkn; rw [← hpt] at b3 b4)
                clear a0 a1 a2 a3 a4
                go_quiet (fail)
                go_wp2_with fail
                go_roundw
                case rel => exact ⟨j + 1, by omega, by go_num, HBD _⟩
                case measure => simp [intOf]; omega
            · have hjn : ¬ j = n - 1 := fun h => hz (hkd2.2 h)
              have t1 : (kd == 0) = false := by rw [beq_eq_false_iff_ne]; exact hz
              have t3 : ((j : Int) == (n : Int) - 1) = false := by rw [beq_eq_false_iff_ne]; omega
              clear hkd2 hz hjn
              rcases hc with ⟨hq, h4⟩ | hq
              · have t4 : (ln == pl) = true := by rw [beq_iff_eq]; exact hq.symm
                have h5 : decide (co ≤ pc) = false := decide_eq_false h4
                clear hq h4
                clear HLT
                go_wp2_with (refine wpList_store_row rfl 34 _ _ rfl wr.heap.size #[.int .i64 kd, .string (bs x), .int .i64 nm, .int .i64 ln, .int .i64 co] rfl rfl _ _ (Blk.new wr _ _) tok_size rfl (five_one _ _ _ _ _) ?_; obtain ⟨V, hV⟩ : ∃ V, V = (wr.alloc (.cells #[.int .i64 0, .string ⟨#[]⟩, .int .i64 0, .int .i64 0, .int .i64 0] 34)).setRow wr.heap.size #[.int .i64 kd, .string (bs x), .int .i64 nm, .int .i64 ln, .int .i64 co] := ⟨_, rfl⟩; rw [← hV]; obtain ⟨hkV, hbV⟩ := put_tok hV; have HKV := Lib.hid hkV; have HBV := Lib.hid hbV; clear hV hkV hbV; have f0 : V.cell? ⟨wr.heap.size, 0, none⟩ = some (.int .i64 kd) := HKV.out.cell 0; have f3 : V.cell? ⟨wr.heap.size, 3, none⟩ = some (.int .i64 ln) := HKV.out.cell 3; have f4 : V.cell? ⟨wr.heap.size, 4, none⟩ = some (.int .i64 co) := HKV.out.cell 4; have HBF := Lib.hid (HBR.out.trans (HBV.out.mono HBR.out.size)); have HBD : ∀ q, Hid (Below V1.heap.size V1 (V.drewN q)) := fun q => Lib.hid (below_drewN9 HBF.out q); obtain ⟨_, _, _, b3, b4⟩ := tok_cells (HRD.out.below HBF.out) hkn; rw [← hpt] at b3 b4)
                clear a0 a1 a2 a3 a4
                go_quiet (fail)
                go_wp2_with fail
                go_roundw
                case rel => exact ⟨j + 1, by omega, by go_num, HBD _⟩
                case measure => simp [intOf]; omega
              · have t4 : (ln == pl) = false := by rw [beq_eq_false_iff_ne]; exact hq
                clear hq
                clear HLT
                go_wp2_with (refine wpList_store_row rfl 34 _ _ rfl wr.heap.size #[.int .i64 kd, .string (bs x), .int .i64 nm, .int .i64 ln, .int .i64 co] rfl rfl _ _ (Blk.new wr _ _) tok_size rfl (five_one _ _ _ _ _) ?_; obtain ⟨V, hV⟩ : ∃ V, V = (wr.alloc (.cells #[.int .i64 0, .string ⟨#[]⟩, .int .i64 0, .int .i64 0, .int .i64 0] 34)).setRow wr.heap.size #[.int .i64 kd, .string (bs x), .int .i64 nm, .int .i64 ln, .int .i64 co] := ⟨_, rfl⟩; rw [← hV]; obtain ⟨hkV, hbV⟩ := put_tok hV; have HKV := Lib.hid hkV; have HBV := Lib.hid hbV; clear hV hkV hbV; have f0 : V.cell? ⟨wr.heap.size, 0, none⟩ = some (.int .i64 kd) := HKV.out.cell 0; have f3 : V.cell? ⟨wr.heap.size, 3, none⟩ = some (.int .i64 ln) := HKV.out.cell 3; have f4 : V.cell? ⟨wr.heap.size, 4, none⟩ = some (.int .i64 co) := HKV.out.cell 4; have HBF := Lib.hid (HBR.out.trans (HBV.out.mono HBR.out.size)); have HBD : ∀ q, Hid (Below V1.heap.size V1 (V.drewN q)) := fun q => Lib.hid (below_drewN9 HBF.out q); obtain ⟨_, _, _, b3, b4⟩ := tok_cells (HRD.out.below HBF.out) hkn; rw [← hpt] at b3 b4)
                clear a0 a1 a2 a3 a4
                go_quiet (fail)
                go_wp2_with fail
                go_roundw
                case rel => exact ⟨j + 1, by omega, by go_num, HBD _⟩
                case measure => simp [intOf]; omega
        · obtain rfl : j = n := by omega
          have i0 : (0 : Int) < (j : Int) := by omega
          have HBR2 := Lib.hid (HBX.out.trans (HBR.out.mono HBX.out.size))
          go_wp2_with fail
          refine (awake_any wr (HP.out.below HBR2.out (Nat.le_refl _))).mono ?_
          rintro e w9 ⟨rfl, hb9⟩
          have HB9 := Lib.hid (HBR2.out.trans (hb9.mono HBR2.out.size))
          clear hb9
          go_wp2_with fail
          go_ret
          exact ⟨rfl, HB9.out⟩
    · obtain ⟨e1, e2, e3, e4, e5⟩ := o1 h0
      clear o1 o2
      obtain rfl : ts = [] := e1
      have i1 : 1 ≤ b := e2
      have i2 : b ≤ 1 + feedsL s.data.toList := e3
      have i3 : 1 ≤ d := e4
      have i4 : d ≤ s.size + 1 := by rw [hl] at e5; exact e5
      clear e2 e3 e4 e5
      have hfl := feeds_le s.data.toList
      rw [hl] at hfl
      rw [← feeds_eq] at i2
      obtain ⟨q, hq⟩ : ∃ q, q = feedsN s.data.toList := ⟨_, rfl⟩
      rw [← hq] at i2 hfl
      have HQ := Lib.hid hq
      have i5 : b ≤ 1 + (q : Int) := by omega
      have wq : IntKind.i64.wrap (1 + (q : Int)) = 1 + (q : Int) := IntWalk.i64_in _ (by omega)
      have ws : IntKind.i64.wrap ((s.size : Int) + 1) = (s.size : Int) + 1 := IntWalk.i64_in _ (by omega)
      have dq : decide (b ≤ 1 + (q : Int)) = true := decide_eq_true i5
      have ds : decide (d ≤ (s.size : Int) + 1) = true := decide_eq_true i4
      have ta : (a != 0) = true := by rw [bne_iff_ne]; exact h0
      clear hq i2 hl
      have hne : ¬ (a, b, d) = ((0, 0, 0) : Int × Int × Int) := fun e => h0 (by injection e)
      have r5 : ∀ (x y : Operand) (W : World), (eqGuard .neq 28 x y (.agg #[.int .i64 a, .int .i64 b, .int .i64 d]) (.agg #[.int .i64 0, .int .i64 0, .int .i64 0])).run Tryd.prog W = .ok () W := fun x y W => guard_fail .neq x y (a, b, d) (0, 0, 0) W
      have r6 : ∀ W : World, (binOp .neq 28 (.agg #[.int .i64 a, .int .i64 b, .int .i64 d]) (.agg #[.int .i64 0, .int .i64 0, .int .i64 0])).run Tryd.prog W = .ok (.bool true) W := fun W => by
        have h := run_neq_fail (a, b, d) (0, 0, 0) W
        rw [decide_eq_false hne] at h
        exact h
      clear hne h0
      go_enter Tryd.func6, Tryd.ntmps6
      go_wp2_with fail
      refine (All_any w s (by omega) HP.out).mono ?_
      rintro e w1 ⟨A, n, c, he, ho, hb⟩
      rw [← HR.out] at he ho
      subst he
      obtain rfl : n = 0 := (ownT_len ho).symm
      have HO := Lib.hid ho
      have HB := Lib.hid hb
      clear ho hb
      go_wp2_with (refine wpList_store_row rfl 28 _ _ rfl w1.heap.size #[.int .i64 a, .int .i64 b, .int .i64 d] rfl rfl _ _ (Blk.new w1 _ _) fail_size rfl (three_ints _ _ _) ?_; obtain ⟨V1, hV1⟩ : ∃ V, V = (w1.alloc (.cells #[.int .i64 0, .int .i64 0, .int .i64 0] 28)).setRow w1.heap.size #[.int .i64 a, .int .i64 b, .int .i64 d] := ⟨_, rfl⟩; rw [← hV1]; obtain ⟨hkV1, hbV1⟩ := put_tok hV1; have HKV1 := Lib.hid hkV1; have HBV1 := Lib.hid hbV1; clear hV1 hkV1 hbV1; have HBX := Lib.hid (HB.out.trans (HBV1.out.mono HB.out.size)); have p0 : V1.cell? ⟨w1.heap.size, 0, none⟩ = some (.int .i64 a) := HKV1.out.cell 0; have p1 : V1.cell? ⟨w1.heap.size, 1, none⟩ = some (.int .i64 b) := HKV1.out.cell 1; have p2 : V1.cell? ⟨w1.heap.size, 2, none⟩ = some (.int .i64 d) := HKV1.out.cell 2)
      clear p0 p1 p2 r5 r6
      have START : Hid (Below V1.heap.size V1 V1.drew ∧ V1.drew.cell? ⟨w1.heap.size, 0, none⟩ = some (.int .i64 a) ∧ V1.drew.cell? ⟨w1.heap.size, 1, none⟩ = some (.int .i64 b) ∧ V1.drew.cell? ⟨w1.heap.size, 2, none⟩ = some (.int .i64 d)) := Lib.hid ⟨(Below.refl _ _).drew, HKV1.out.cell 0, HKV1.out.cell 1, HKV1.out.cell 2⟩
      have STEP : Hid (∀ u1 u2 : World, Below u1.heap.size u1 u2 → (Below V1.heap.size V1 u1 ∧ u1.cell? ⟨w1.heap.size, 0, none⟩ = some (.int .i64 a) ∧ u1.cell? ⟨w1.heap.size, 1, none⟩ = some (.int .i64 b) ∧ u1.cell? ⟨w1.heap.size, 2, none⟩ = some (.int .i64 d)) → (Below V1.heap.size V1 u2 ∧ u2.cell? ⟨w1.heap.size, 0, none⟩ = some (.int .i64 a) ∧ u2.cell? ⟨w1.heap.size, 1, none⟩ = some (.int .i64 b) ∧ u2.cell? ⟨w1.heap.size, 2, none⟩ = some (.int .i64 d))) := Lib.hid (fun u1 u2 hb hs => by
        have hb2 := hs.1.trans (hb.mono hs.1.size)
        have hk := HKV1.out.below hb2 HKV1.out.lt
        exact ⟨hb2, hk.cell 0, hk.cell 1, hk.cell 2⟩)
      have FIN : Hid (∀ w' : World, (Below V1.heap.size V1 w' ∧ w'.cell? ⟨w1.heap.size, 0, none⟩ = some (.int .i64 a) ∧ w'.cell? ⟨w1.heap.size, 1, none⟩ = some (.int .i64 b) ∧ w'.cell? ⟨w1.heap.size, 2, none⟩ = some (.int .i64 d)) → Below w.heap.size w w') := Lib.hid (fun w' hs => HBX.out.trans (hs.1.mono HBX.out.size))
      have PWS : Hid (∀ w' : World, (Below V1.heap.size V1 w' ∧ w'.cell? ⟨w1.heap.size, 0, none⟩ = some (.int .i64 a) ∧ w'.cell? ⟨w1.heap.size, 1, none⟩ = some (.int .i64 b) ∧ w'.cell? ⟨w1.heap.size, 2, none⟩ = some (.int .i64 d)) → Pw w') := Lib.hid (fun w' hs => HP.out.below (FIN.out w' hs) (Nat.le_refl _))
      go_region_held3 (fun w' => (Below V1.heap.size V1 w' ∧ w'.cell? ⟨w1.heap.size, 0, none⟩ = some (.int .i64 a) ∧ w'.cell? ⟨w1.heap.size, 1, none⟩ = some (.int .i64 b) ∧ w'.cell? ⟨w1.heap.size, 2, none⟩ = some (.int .i64 d))) (first | exact START.out | exact STEP.out _ _ (by assumption) (by assumption))
        (first
          | (go_at_call 18; refine (feeds_b _ s (by omega)).mono ?_; rintro e wz ⟨rfl, hbb⟩; rw [← HQ.out])
          | (go_at_call 8; refine (awake_any _ ?_).mono ?_; exact PWS.out _ (by assumption); rintro e wz ⟨rfl, hbb⟩))
      go_wp2
      go_ret
      exact ⟨rfl, FIN.out _ (by assumption)⟩
  · have hbig : (600 : Int) < s.size := by omega
    go_enter Tryd.func6, Tryd.ntmps6
    go_wp2_with fail
    refine (awake_any w HP.out).mono ?_
    rintro e w1 ⟨rfl, hb1⟩
    go_wp2_with fail
    go_ret
    exact ⟨rfl, hb1⟩

end Go.Proofs.YtahpfbmaaccejaaDoor
