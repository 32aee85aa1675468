/- Contracts of the reference's Rises, put, and of the statements' sameNames. -/
import Derived.Test.YtgeglhgkibcpfaaDoorNamA
import Derived.Test.YtgeglhgkibcpfaaDoorAppV
import Derived.Test.YtgeglhgkibcpfaaDoorInfo
namespace Go.Proofs.YtgeglhgkibcpfaaDoor
open Go.RowKit
set_option linter.unusedVariables false

theorem Tryd.inf_nm : (Tryd.prog.info? 45).map (fun i => (i.zero, i.size, i.bytes)) = some (some (.agg #[.string ⟨#[]⟩, .int .i64 0, .int .i64 0]), 3, 32) := by kernel_rfl

theorem riseB_two (x y : Nm) (r : List Nm) : riseB (x :: y :: r) = (ltB x.name y.name && riseB (y :: r)) := rfl
theorem ltB_of {x y : List UInt8} {b : Bool} (h : ltB x y = b) : Op.bytesLess (bs x).toList (bs y).toList = b := by rw [bs_list, bs_list]; exact h

set_option maxRecDepth 100000 in
set_option maxHeartbeats 3200000 in
theorem r15Rises_any (w : World) (A : Option Addr) (n c : Nat) (ts : List Nm) (h : RdN w w.heap.size A n ts) (hn : (n : Int) ≤ 100000) :
    Calls Tryd.prog 14 #[.slice A n c] w fun e w' => e = .returned (.bool (riseB ts)) ∧ Below w.heap.size w w' := by
  have HR := Lib.hid h
  have hl := h.1
  have HL := Lib.hid hl
  clear h hl
  obtain ⟨R, hR⟩ : ∃ R, R = riseB ts := ⟨_, rfl⟩
  have HS : Hid (R = riseB (ts.drop 0)) := Lib.hid (by rw [hR]; rfl)
  rw [← hR]
  clear hR
  go_enter Tryd.func14, Tryd.ntmps14
  go_wp2_with fail
  go_loopw [3] (fun vi wr => ∃ j : Nat, j ≤ n ∧ vi = .int .i64 ((j : Int) + 1) ∧ Hid (Below w.heap.size w wr) ∧ Hid (R = riseB (ts.drop j))) (fun vi _ => n + 1 - (intOf vi).toNat)
  case atStart => exact ⟨0, Nat.zero_le _, rfl, Lib.hid (Below.refl _ _), HS⟩
  case round =>
    clear HS
    obtain ⟨j, hj, rfl, HB, HS⟩ := hrel
    by_cases hlt : j + 1 < n
    · obtain ⟨ad, rfl, _⟩ := nm_addr HR.out (by omega)
      obtain ⟨a0, _, _⟩ := nm_cells (HR.out.below HB.out) (j := j) (by omega)
      obtain ⟨b0, _, _⟩ := nm_cells (HR.out.below HB.out) hlt
      have hd := nm_drop (ts := ts) (j := j) (by rw [HL.out]; omega)
      have hd2 := nm_drop (ts := ts) (j := j + 1) (by rw [HL.out]; exact hlt)
      obtain ⟨t, ht⟩ : ∃ t, t = ts[j]?.getD noNm := ⟨_, rfl⟩
      obtain ⟨u, hu⟩ : ∃ u, u = ts[j + 1]?.getD noNm := ⟨_, rfl⟩
      rw [← ht] at a0 hd
      rw [← hu] at b0 hd2
      have HN : Hid (R = (ltB t.name u.name && riseB (ts.drop (j + 1)))) := Lib.hid (by rw [HS.out, hd, hd2, riseB_two])
      clear ht hu hd hd2
      have hlt1 : (j : Int) + 1 < n := by omega
      have hw1 : (j : Int) + 1 - 1 = j := by omega
      have HBD : ∀ q, Hid (Below w.heap.size w (wr.drewN q)) := fun q => Lib.hid (below_drewN HB.out q)
      by_cases hs : ltB t.name u.name = true
      · have hq := ltB_of hs
        have HE : Hid (R = riseB (ts.drop (j + 1))) := Lib.hid (by rw [HN.out, hs, Bool.true_and])
        clear HN HS hs
        go_wp2_with fail
        go_quiet (fail)
        go_wp2_with fail
        go_roundw
        case rel => exact ⟨j + 1, by omega, by go_num, HBD _, HE⟩
        case measure => simp [intOf]; omega
      · have hs2 : ltB t.name u.name = false := by simpa using hs
        have hq := ltB_of hs2
        have HE : Hid (R = false) := Lib.hid (by rw [HN.out, hs2, Bool.false_and])
        clear HN HS hs hs2
        go_wp2_with fail
        go_quiet (fail)
        go_wp2_with fail
        go_ret
        exact ⟨by rw [HE.out]; rfl, (HBD _).out⟩
    · have HE : Hid (R = true) := Lib.hid (by
        rw [HS.out]
        have hl2 : (ts.drop j).length ≤ 1 := by rw [List.length_drop, HL.out]; omega
        cases hd : ts.drop j with
        | nil => rfl
        | cons x r =>
          cases r with
          | nil => rfl
          | cons y r => rw [hd] at hl2; simp at hl2)
      clear HS
      have hlt1 : ¬ (j : Int) + 1 < n := by omega
      go_wp2_with fail
      go_ret
      exact ⟨by rw [HE.out]; rfl, HB.out⟩

set_option maxRecDepth 100000 in
set_option maxHeartbeats 6400000 in
theorem r15put_any (w : World) (A : Option Addr) (n c : Nat) (ts : List Nm) (t : Nm) (h : RdN w w.heap.size A n ts) (hn : (n : Int) ≤ 100000) (hnc : n ≤ c) :
    Calls Tryd.prog 34 #[.slice A n c, nmV t] w fun e w' => ∃ A2 n2 c2, e = .returned (.slice A2 n2 c2) ∧ w'.ownsRow w.heap.size 45 3 (.slice A2 n2 c2) n2 (nmv (putN ts t)) ∧ Below w.heap.size w w' := by
  have HR := Lib.hid h
  have hl := h.1
  have HL := Lib.hid hl
  clear h hl
  obtain ⟨R, hR⟩ : ∃ R, R = rankN ts t.name := ⟨_, rfl⟩
  have hRn : R ≤ n := by rw [hR, ← HL.out]; exact rankN_le _ _
  have HP : Hid (putN ts t = ts.take R ++ t :: ts.drop R) := Lib.hid (by rw [hR]; rfl)
  have HS : Hid (R = 0 + rankN (ts.drop 0) t.name) := Lib.hid (by rw [hR, Nat.zero_add]; rfl)
  clear hR
  obtain ⟨i0, hi, hz0, hsz, hby⟩ := inf_parts Tryd.inf_nm
  have HI := Lib.hid hi
  have HZ0 := Lib.hid hz0
  have HSZ := Lib.hid hsz
  have HBY := Lib.hid hby
  clear hi hz0 hsz hby
  show Calls Tryd.prog _ #[.slice A n c, .agg #[.string (bs t.name), .int .i64 t.kind, .int .i64 t.num]] w _
  obtain ⟨W, hW⟩ : ∃ W, W = w.alloc (.cells #[.string (bs t.name), .int .i64 t.kind, .int .i64 t.num] 45) := ⟨_, rfl⟩
  have HBW : Hid (Below w.heap.size w W) := Lib.hid (by rw [hW]; exact (Below.refl _ _).alloc (Nat.le_refl _) _)
  have HKW : Hid (Blk W w.heap.size 45 #[.string (bs t.name), .int .i64 t.kind, .int .i64 t.num]) := Lib.hid (by rw [hW]; exact Blk.new _ _ _)
  go_enter Tryd.func34, Tryd.ntmps34
  go_wp2_with fail
  rw [← hW]
  clear hW
  go_loopw [5] (fun vi wr => ∃ j : Nat, j ≤ n ∧ vi = .int .i64 j ∧ Hid (Below W.heap.size W wr) ∧ Hid (R = j + rankN (ts.drop j) t.name)) (fun vi _ => n - (intOf vi).toNat)
  case atStart => exact ⟨0, Nat.zero_le _, rfl, Lib.hid (Below.refl _ _), HS⟩
  case round =>
    clear HS
    obtain ⟨j, hj, rfl, HB, HS⟩ := hrel
    have HBR := Lib.hid (HBW.out.trans (HB.out.mono HBW.out.size))
    have HKR := Lib.hid (HKW.out.below HB.out HKW.out.lt)
    have k0 : wr.cell? ⟨w.heap.size, 0, none⟩ = some (.string (bs t.name)) := HKR.out.cell 0
    have HBD : ∀ q, Hid (Below W.heap.size W (wr.drewN q)) := fun q => Lib.hid (below_drewN HB.out q)
    have ends : ∀ wz : World, Hid (Below W.heap.size W wz) → j = R → True := fun _ _ _ => trivial
    by_cases hlt : j < n
    · obtain ⟨ad, rfl, _⟩ := nm_addr HR.out (by omega)
      obtain ⟨a0, _, _⟩ := nm_cells (HR.out.below HBR.out) hlt
      have hd := nm_drop (ts := ts) (j := j) (by rw [HL.out]; exact hlt)
      obtain ⟨x, hx⟩ : ∃ t, t = ts[j]?.getD noNm := ⟨_, rfl⟩
      rw [← hx] at a0 hd
      have HN : Hid (R = j + if ltB x.name t.name = true then rankN (ts.drop (j + 1)) t.name + 1 else 0) := Lib.hid (by rw [HS.out, hd]; rfl)
      clear hx hd
      by_cases hs : ltB x.name t.name = true
      · have hq := ltB_of hs
        have HE : Hid (R = j + 1 + rankN (ts.drop (j + 1)) t.name) := Lib.hid (by rw [HN.out, if_pos hs]; omega)
        clear HN HS hs
        go_wp2_with fail
        go_quiet (fail)
        go_wp2_with fail
        go_roundw
        case rel => exact ⟨j + 1, by omega, by go_num, HBD _, HE⟩
        case measure => simp [intOf]; omega
      · have hs2 : ltB x.name t.name = false := by simpa using hs
        have hq := ltB_of hs2
        have hE : R = j := by rw [HN.out, if_neg hs]; omega
        clear HN HS hs hs2
        subst hE
        go_wp2_with fail
        go_quiet (fail)
        obtain ⟨V, hV⟩ : ∃ V0, V0 = wr.drewN nq := ⟨_, rfl⟩
        have HBV : Hid (Below W.heap.size W V) := Lib.hid (by rw [hV]; exact (HBD _).out)
        rw [← hV]
        clear hV
        have HBZ := Lib.hid (HBW.out.trans (HBV.out.mono HBW.out.size))
        have hcR : ¬ c = R := by omega
        have HG : Hid (RdV 3 w w.heap.size (some (ad.add (R * 3))) (n - R) (nmv (ts.drop R))) := Lib.hid (by have := (HR.out.back (k := R) (cap := c) (by omega) hnc).vals; rw [if_neg hcR] at this; exact this)
        have HF := Lib.hid ((HR.out.front (k := R) (by omega)).vals)
        have HO0 : Hid (V.ownsRow W.heap.size 45 3 (.slice none 0 0) 0 []) := Lib.hid (own_nilV _ _ _ _)
        go_wp2_with (first
          | (at_builtin; refine wpList_appV _ rfl _ _ 27 rfl W.heap.size 45 i0 _ 3 32 Tryd.underlying27 HI.out HZ0.out rfl HSZ.out HBY.out (by omega) _ 0 _ rfl HO0.out w.heap.size _ R _ (nmv (ts.take R)) rfl (HF.out.below HBZ.out) nmv_one (by omega) (by omega) HBV.out.size ?_; intro A1 c1 w1 hown1 hg1; have HO1 : Hid (w1.ownsRow W.heap.size 45 3 (.slice A1 R c1) R (nmv (ts.take R))) := Lib.hid (by simpa using hown1); have HB1 := Lib.hid (HBV.out.grown hg1 HBV.out.size (own_from HO0.out)); have HK1 := Lib.hid (HKW.out.below HB1.out HKW.out.lt); clear hown1 hg1)
          | (refine wpList_load_row rfl 45 _ rfl w.heap.size rfl 45 #[.string (bs t.name), .int .i64 t.kind, .int .i64 t.num] (0, 0) _ HK1.out Tryd.underlying45 rfl nm_size ?_)
          | (at_builtin; refine wpList_appV _ rfl _ _ 27 rfl W.heap.size 45 i0 _ 3 32 Tryd.underlying27 HI.out HZ0.out rfl HSZ.out HBY.out (by omega) _ R _ rfl (HO1.out.alloc _) _ _ 1 _ (nmc t) rfl (RdV.one (Blk.new w1 45 (nmc t).toArray) rfl) (by simp [nmc, Value.oneCell']) (by omega) (by omega) (HB1.out.alloc HB1.out.size _).size ?_; intro A2 c2 w2 hown2 hg2; have HO2 : Hid (w2.ownsRow W.heap.size 45 3 (.slice A2 (R + 1) c2) (R + 1) (nmv (ts.take R) ++ nmc t)) := Lib.hid hown2; have HB2 := Lib.hid ((HB1.out.alloc HB1.out.size _).grown hg2 (HB1.out.alloc HB1.out.size _).size (own_from HO1.out)); clear hown2 hg2)
          | (at_builtin; refine wpList_appV _ rfl _ _ 27 rfl W.heap.size 45 i0 _ 3 32 Tryd.underlying27 HI.out HZ0.out rfl HSZ.out HBY.out (by omega) _ (R + 1) _ rfl HO2.out _ _ (n - R) _ (nmv (ts.drop R)) rfl (HG.out.below (HBW.out.trans (HB2.out.mono HBW.out.size))) nmv_one (by omega) (by omega) HB2.out.size ?_; intro A3 c3 w3 hown3 hg3; have HO3 := Lib.hid hown3; have HB3 := Lib.hid (HB2.out.grown hg3 HB2.out.size (own_from HO2.out)); clear hown3 hg3))
        (try simp only [Exit.inBlock, Exit.then]); refine bodyPost_ret (results_tmp rfl _ _ _) rfl ?_
        refine ⟨A3, _, c3, rfl, ?_, HBW.out.trans (HB3.out.mono HBW.out.size)⟩
        rw [HP.out, nmv_append, nmv_cons]
        have ho := own_base HO3.out HBW.out.size
        simpa [nmc] using ho
    · have hE : R = j := by rw [HS.out, List.drop_of_length_le (by rw [HL.out]; omega)]; rfl
      clear HS
      subst hE
      obtain rfl : R = n := by omega
      cases A with
      | none =>
        obtain rfl : R = 0 := by
          rcases Nat.eq_zero_or_pos R with h0 | h0
          · exact h0
          · obtain ⟨ad, h, _⟩ := nm_addr HR.out h0
            cases h
        go_wp2_with fail
        go_quiet (fail)
        obtain ⟨V, hV⟩ : ∃ V0, V0 = wr.drewN nq := ⟨_, rfl⟩
        have HBV : Hid (Below W.heap.size W V) := Lib.hid (by rw [hV]; exact (HBD _).out)
        rw [← hV]
        clear hV
        have HBZ := Lib.hid (HBW.out.trans (HBV.out.mono HBW.out.size))
        have HG : ∀ A, Hid (RdV 3 w w.heap.size A 0 (nmv (ts.drop 0))) := fun A => Lib.hid (by rw [List.drop_of_length_le (Nat.le_of_eq HL.out)]; exact RdV.nil _ _ _ _)
        have HF := Lib.hid ((HR.out.front (k := 0) (by omega)).vals)
        have HO0 : Hid (V.ownsRow W.heap.size 45 3 (.slice none 0 0) 0 []) := Lib.hid (own_nilV _ _ _ _)
        go_wp2_with (first
          | (at_builtin; refine wpList_appV _ rfl _ _ 27 rfl W.heap.size 45 i0 _ 3 32 Tryd.underlying27 HI.out HZ0.out rfl HSZ.out HBY.out (by omega) _ 0 _ rfl HO0.out w.heap.size _ 0 _ (nmv (ts.take 0)) rfl (HF.out.below HBZ.out) nmv_one (by omega) (by omega) HBV.out.size ?_; intro A1 c1 w1 hown1 hg1; have HO1 : Hid (w1.ownsRow W.heap.size 45 3 (.slice A1 0 c1) 0 (nmv (ts.take 0))) := Lib.hid (by simpa using hown1); have HB1 := Lib.hid (HBV.out.grown hg1 HBV.out.size (own_from HO0.out)); have HK1 := Lib.hid (HKW.out.below HB1.out HKW.out.lt); clear hown1 hg1)
          | (refine wpList_load_row rfl 45 _ rfl w.heap.size rfl 45 #[.string (bs t.name), .int .i64 t.kind, .int .i64 t.num] (0, 0) _ HK1.out Tryd.underlying45 rfl nm_size ?_)
          | (at_builtin; refine wpList_appV _ rfl _ _ 27 rfl W.heap.size 45 i0 _ 3 32 Tryd.underlying27 HI.out HZ0.out rfl HSZ.out HBY.out (by omega) _ 0 _ rfl (HO1.out.alloc _) _ _ 1 _ (nmc t) rfl (RdV.one (Blk.new w1 45 (nmc t).toArray) rfl) (by simp [nmc, Value.oneCell']) (by omega) (by omega) (HB1.out.alloc HB1.out.size _).size ?_; intro A2 c2 w2 hown2 hg2; have HO2 : Hid (w2.ownsRow W.heap.size 45 3 (.slice A2 (1) c2) (1) (nmv (ts.take 0) ++ nmc t)) := Lib.hid (by simpa using hown2); have HB2 := Lib.hid ((HB1.out.alloc HB1.out.size _).grown hg2 (HB1.out.alloc HB1.out.size _).size (own_from HO1.out)); clear hown2 hg2)
          | (at_builtin; refine wpList_appV _ rfl _ _ 27 rfl W.heap.size 45 i0 _ 3 32 Tryd.underlying27 HI.out HZ0.out rfl HSZ.out HBY.out (by omega) _ (1) _ rfl HO2.out _ _ 0 _ (nmv (ts.drop 0)) rfl ((HG _).out.below (HBW.out.trans (HB2.out.mono HBW.out.size))) nmv_one (by omega) (by omega) HB2.out.size ?_; intro A3 c3 w3 hown3 hg3; have HO3 := Lib.hid hown3; have HB3 := Lib.hid (HB2.out.grown hg3 HB2.out.size (own_from HO2.out)); clear hown3 hg3))
        (try simp only [Exit.inBlock, Exit.then]); refine bodyPost_ret (results_tmp rfl _ _ _) rfl ?_
        refine ⟨A3, _, c3, rfl, ?_, HBW.out.trans (HB3.out.mono HBW.out.size)⟩
        rw [HP.out, nmv_append, nmv_cons]
        have ho := own_base HO3.out HBW.out.size
        simpa [nmc] using ho
      | some ad =>
        go_wp2_with fail
        go_quiet (fail)
        obtain ⟨V, hV⟩ : ∃ V0, V0 = wr.drewN nq := ⟨_, rfl⟩
        have HBV : Hid (Below W.heap.size W V) := Lib.hid (by rw [hV]; exact (HBD _).out)
        rw [← hV]
        clear hV
        have HBZ := Lib.hid (HBW.out.trans (HBV.out.mono HBW.out.size))
        have HG : ∀ A, Hid (RdV 3 w w.heap.size A 0 (nmv (ts.drop R))) := fun A => Lib.hid (by rw [List.drop_of_length_le (Nat.le_of_eq HL.out)]; exact RdV.nil _ _ _ _)
        have HF := Lib.hid ((HR.out.front (k := R) (by omega)).vals)
        have HO0 : Hid (V.ownsRow W.heap.size 45 3 (.slice none 0 0) 0 []) := Lib.hid (own_nilV _ _ _ _)
        go_wp2_with (first
          | (at_builtin; refine wpList_appV _ rfl _ _ 27 rfl W.heap.size 45 i0 _ 3 32 Tryd.underlying27 HI.out HZ0.out rfl HSZ.out HBY.out (by omega) _ 0 _ rfl HO0.out w.heap.size _ R _ (nmv (ts.take R)) rfl (HF.out.below HBZ.out) nmv_one (by omega) (by omega) HBV.out.size ?_; intro A1 c1 w1 hown1 hg1; have HO1 : Hid (w1.ownsRow W.heap.size 45 3 (.slice A1 R c1) R (nmv (ts.take R))) := Lib.hid (by simpa using hown1); have HB1 := Lib.hid (HBV.out.grown hg1 HBV.out.size (own_from HO0.out)); have HK1 := Lib.hid (HKW.out.below HB1.out HKW.out.lt); clear hown1 hg1)
          | (refine wpList_load_row rfl 45 _ rfl w.heap.size rfl 45 #[.string (bs t.name), .int .i64 t.kind, .int .i64 t.num] (0, 0) _ HK1.out Tryd.underlying45 rfl nm_size ?_)
          | (at_builtin; refine wpList_appV _ rfl _ _ 27 rfl W.heap.size 45 i0 _ 3 32 Tryd.underlying27 HI.out HZ0.out rfl HSZ.out HBY.out (by omega) _ R _ rfl (HO1.out.alloc _) _ _ 1 _ (nmc t) rfl (RdV.one (Blk.new w1 45 (nmc t).toArray) rfl) (by simp [nmc, Value.oneCell']) (by omega) (by omega) (HB1.out.alloc HB1.out.size _).size ?_; intro A2 c2 w2 hown2 hg2; have HO2 : Hid (w2.ownsRow W.heap.size 45 3 (.slice A2 (R + 1) c2) (R + 1) (nmv (ts.take R) ++ nmc t)) := Lib.hid hown2; have HB2 := Lib.hid ((HB1.out.alloc HB1.out.size _).grown hg2 (HB1.out.alloc HB1.out.size _).size (own_from HO1.out)); clear hown2 hg2)
          | (at_builtin; refine wpList_appV _ rfl _ _ 27 rfl W.heap.size 45 i0 _ 3 32 Tryd.underlying27 HI.out HZ0.out rfl HSZ.out HBY.out (by omega) _ (R + 1) _ rfl HO2.out _ _ 0 _ (nmv (ts.drop R)) rfl ((HG _).out.below (HBW.out.trans (HB2.out.mono HBW.out.size))) nmv_one (by omega) (by omega) HB2.out.size ?_; intro A3 c3 w3 hown3 hg3; have HO3 := Lib.hid hown3; have HB3 := Lib.hid (HB2.out.grown hg3 HB2.out.size (own_from HO2.out)); clear hown3 hg3))
        all_goals
          (try simp only [Exit.inBlock, Exit.then]); refine bodyPost_ret (results_tmp rfl _ _ _) rfl ?_
          refine ⟨A3, _, c3, rfl, ?_, HBW.out.trans (HB3.out.mono HBW.out.size)⟩
          rw [HP.out, nmv_append, nmv_cons]
          have ho := own_base HO3.out HBW.out.size
          simpa [nmc] using ho

set_option maxRecDepth 100000 in
set_option maxHeartbeats 6400000 in
theorem sameNames_any (w : World) (A B : Option Addr) (n c m d : Nat) (ts us : List Nm) (hA : RdN w w.heap.size A n ts) (hB : RdN w w.heap.size B m us) (hn : (n : Int) ≤ 100000) (hm : (m : Int) ≤ 100000) :
    Calls Tryd.prog 13 #[.slice A n c, .slice B m d] w fun e w' => e = .returned (.bool (decide (ts = us))) ∧ Below w.heap.size w w' := by
  obtain ⟨q, hq⟩ : ∃ q, q = decide (ts = us) := ⟨_, rfl⟩
  have HQ := Lib.hid hq
  rw [← hq]
  clear hq
  have HA := Lib.hid hA
  have HB := Lib.hid hB
  have hal := hA.1
  have hbl := hB.1
  clear hA hB
  by_cases hnm : n = m
  · subst hnm
    have tn : ((n : Int) != n) = false := by simp
    have HAL := Lib.hid hal
    have HBL := Lib.hid hbl
    clear hal hbl
    go_enter Tryd.func13, Tryd.ntmps13
    go_wp2_with fail
    go_loopw [13] (fun vj wr => ∃ j : Nat, j ≤ n ∧ vj = .int .i64 j ∧ Hid (Below w.heap.size w wr) ∧ Hid (∀ i, i < j → ts[i]?.getD noNm = us[i]?.getD noNm)) (fun vj _ => n - (intOf vj).toNat)
    case atStart => exact ⟨0, Nat.zero_le _, rfl, Lib.hid (Below.refl _ _), Lib.hid (fun i hi => absurd hi (by omega))⟩
    case round =>
      obtain ⟨j, hj, rfl, HW, HE⟩ := hrel
      by_cases hlt : j < n
      · obtain ⟨ad, hA, _⟩ := nm_addr HA.out (by omega)
        obtain ⟨bd, hB, _⟩ := nm_addr HB.out (by omega)
        subst hA hB
        have HBD : ∀ q, Hid (Below w.heap.size w (wr.drewN q)) := fun q => Lib.hid (below_drewN HW.out q)
        obtain ⟨a0, a1, a2⟩ := nm_cells (HA.out.below HW.out) hlt
        obtain ⟨b0, b1, b2⟩ := nm_cells (HB.out.below HW.out) hlt
        obtain ⟨t, ht⟩ : ∃ t, t = ts[j]?.getD noNm := ⟨_, rfl⟩
        obtain ⟨u, hu⟩ : ∃ u, u = us[j]?.getD noNm := ⟨_, rfl⟩
        rw [← ht] at a0 a1 a2
        rw [← hu] at b0 b1 b2
        have g1 := guard_nm .neq (.tmp 19) (.tmp 23) t u
        have g2 := run_neq_nm t u
        unfold nmV at g1 g2
        by_cases htu : t = u
        · have HE2 : Hid (∀ i, i < j + 1 → ts[i]?.getD noNm = us[i]?.getD noNm) := Lib.hid (fun i hi => by
            by_cases e : i = j
            · subst e; rw [← ht, ← hu]; exact htu
            · exact HE.out i (by omega))
          simp only [decide_eq_true htu, Bool.not_true] at g2
          clear ht hu htu HE
          go_wp2_with fail
          go_quiet (fail)
          go_wp2_with fail
          go_roundw
          case rel => exact ⟨j + 1, by omega, by go_num, HBD _, HE2⟩
          case measure => simp [intOf]; omega
        · have HF : Hid (q = false) := Lib.hid (by
            rw [HQ.out]
            apply decide_eq_false
            intro e
            subst e
            exact htu (by rw [ht, hu]))
          simp only [decide_eq_false htu, Bool.not_false] at g2
          clear ht hu htu HE
          go_wp2_with fail
          go_quiet (fail)
          go_wp2_with fail
          go_ret
          rw [HF.out]
          exact ⟨rfl, (HBD _).out⟩
      · obtain rfl : j = n := by omega
        have HF : Hid (q = true) := Lib.hid (by
          rw [HQ.out]
          exact decide_eq_true (nms_all (by rw [HAL.out, HBL.out]) (fun i hi => HE.out i (by rw [HAL.out] at hi; exact hi))))
        go_wp2_with fail
        go_ret
        rw [HF.out]
        exact ⟨rfl, HW.out⟩
  · have tn : ((n : Int) != m) = true := by rw [bne_iff_ne]; omega
    have HF : Hid (q = false) := Lib.hid (by
      rw [HQ.out]
      apply decide_eq_false
      intro e
      subst e
      exact hnm (hal.symm.trans hbl))
    clear hal hbl hnm
    go_enter Tryd.func13, Tryd.ntmps13
    go_wp2_with fail
    go_ret
    rw [HF.out]
    exact ⟨rfl, Below.refl _ _⟩

end Go.Proofs.YtgeglhgkibcpfaaDoor
